/-
  Plain numbers, no program in sight: what chapter 11's calls answer. Nothing is claimed here.
-/
import Derived.Test.YtnkhknmpffcfbaaGreatHNum
import Derived.Test.YtnkhknmpffcfbaaGreatVUnit
namespace Go.Proofs.YtnkhknmpffcfbaaGreat
open Go Go.RowKit

theorem inF0 : inF 0 := ⟨by decide, by decide⟩
theorem two_in {r s : Int × Int} (h : inF r.1) (g : inF s.1) : inF (two r s).1 ∧ inF (two r s).2.1 := by
  unfold two
  split
  · split
    · exact ⟨h, g⟩
    · exact ⟨inF0, inF0⟩
  · exact ⟨inF0, inF0⟩
theorem addR_in (a b : Int) : inF (addR a b).1 := (inR_in _).1
theorem subR_in (a b : Int) : inF (subR a b).1 := (inR_in _).1
theorem behind_in {r : Int × Int} {f : Int → Int × Int} (h : inF (f r.1).1) : inF (behind r f).1 := by
  unfold behind
  split
  · exact h
  · exact inF0
theorem behind_ok {r : Int × Int} {f : Int → Int × Int} (h : r.2 = 0) : behind r f = f r.1 := if_pos h
theorem behind_no {r : Int × Int} {f : Int → Int × Int} (h : ¬ r.2 = 0) : behind r f = (0, r.2) := if_neg h

def noB : Bd := ⟨0, 0, 0, 0, 0, 0, 0, 0⟩
/-- A body with another Mom, with another place. -/
def Bd.mom (A : Bd) (x y : Int) : Bd := ⟨A.s, A.a, A.b, A.m, A.p, A.q, x, y⟩
def Bd.pos (A : Bd) (x y : Int) : Bd := ⟨A.s, A.a, A.b, A.m, x, y, A.u, A.v⟩
theorem Bd.ok.mom {A : Bd} (h : A.ok) {x y : Int} (hx : inF x) (hy : inF y) : (A.mom x y).ok := ⟨h.s, h.a, h.b, h.m, h.p, h.q, hx, hy⟩
theorem Bd.ok.pos {A : Bd} (h : A.ok) {x y : Int} (hx : inF x) (hy : inF y) : (A.pos x y).ok := ⟨h.s, h.a, h.b, h.m, hx, hy, h.u, h.v⟩

/-- Two bodies, asked where there is no error so far. -/
def ifP (k : Int) (r : (Bd × Bd) × Int) : (Bd × Bd) × Int := if k = 0 then r else ((noB, noB), k)
theorem ifP_ok {k : Int} (h : k = 0) (r : (Bd × Bd) × Int) : ifP k r = r := if_pos h
theorem ifP_no {k : Int} (h : ¬ k = 0) (r : (Bd × Bd) × Int) : ifP k r = ((noB, noB), k) := if_neg h
/-- How a call ends that answers two bodies, or throws. -/
def outP (t : (Bd × Bd) × Int) : Ending := if t.2 = 0 then .returned (.tuple #[t.1.1.val, t.1.2.val]) else .panicked [fault t.2]
theorem outP_no {k : Int} (h : ¬ k = 0) (r : (Bd × Bd) × Int) : outP (ifP k r) = .panicked [fault k] := by rw [ifP_no h]; exact if_neg h
theorem outP_yes (A B : Bd) : outP ((A, B), 0) = .returned (.tuple #[A.val, B.val]) := rfl

/-- A body that got a place of two numbers, or their error. -/
def put (t : Int × Int × Int) (f : Int → Int → Bd) : Bd × Int := if t.2.2 = 0 then (f t.1 t.2.1, 0) else (noB, t.2.2)
theorem put_ok {t : Int × Int × Int} (h : t.2.2 = 0) (f : Int → Int → Bd) : put t f = (f t.1 t.2.1, 0) := if_pos h
theorem put_no {t : Int × Int × Int} (h : ¬ t.2.2 = 0) (f : Int → Int → Bd) : put t f = (noB, t.2.2) := if_neg h
def lessV (A : Bd) (x y : Int) : Int × Int × Int := two (subR A.u x) (subR A.v y)
def plusV (A : Bd) (x y : Int) : Int × Int × Int := two (addR A.u x) (addR A.v y)
def lessM (A : Bd) (x y : Int) : Bd × Int := if A.m = 0 then (A, 0) else put (lessV A x y) A.mom
def plusM (A : Bd) (x y : Int) : Bd × Int := if A.m = 0 then (A, 0) else put (plusV A x y) A.mom
/-- What Apply answers. -/
def applyR (A B : Bd) (x y : Int) : (Bd × Bd) × Int := ifP (lessM A x y).2 (ifP (plusM B x y).2 (((lessM A x y).1, (plusM B x y).1), 0))

/-- What both are in lightness; how fast B goes away from A along (x, y). -/
def kR (A B : Bd) : Int × Int := behind (lightR A) fun a => behind (lightR B) fun b => addR a b
def ifV (k : Int) (t : Int × Int × Int) : Int × Int × Int := if k = 0 then t else (0, 0, k)
theorem ifV_ok {k : Int} (h : k = 0) (t : Int × Int × Int) : ifV k t = t := if_pos h
theorem ifV_no {k : Int} (h : ¬ k = 0) (t : Int × Int × Int) : ifV k t = (0, 0, k) := if_neg h
def diffV (s t : Int × Int × Int) : Int × Int × Int := ifV s.2.2 (ifV t.2.2 (two (subR s.1 t.1) (subR s.2.1 t.2.1)))
def ifN (k : Int) (t : Int × Int) : Int × Int := if k = 0 then t else (0, k)
theorem ifN_ok {k : Int} (h : k = 0) (t : Int × Int) : ifN k t = t := if_pos h
theorem ifN_no {k : Int} (h : ¬ k = 0) (t : Int × Int) : ifN k t = (0, k) := if_neg h
theorem outR_no {k : Int} (h : ¬ k = 0) (t : Int × Int) : outR (ifN k t) = .panicked [fault k] := by rw [ifN_no h]; exact if_neg h
def vR (A B : Bd) (x y : Int) : Int × Int := ifN (speedR B).2.2 (ifN (speedR A).2.2 (ifN (two (subR (speedR B).1 (speedR A).1) (subR (speedR B).2.1 (speedR A).2.1)).2.2 (dotV (two (subR (speedR B).1 (speedR A).1) (subR (speedR B).2.1 (speedR A).2.1)).1 (two (subR (speedR B).1 (speedR A).1) (subR (speedR B).2.1 (speedR A).2.1)).2.1 x y)))
def scaleV (x y j : Int) : Int × Int × Int := two (mulR x j) (mulR y j)

/-- The push of a contact, where they go towards one another: w, w turned, j, the push. -/
def halfR (v : Int) : Int × Int := addR v (v.tdiv 2)
def turnR (v : Int) : Int × Int := subR 0 (halfR v).1
def jR (v k : Int) : Int × Int := divR (turnR v).1 k
def pushR (A B : Bd) (x y v k : Int) : (Bd × Bd) × Int := ifP (halfR v).2 (ifP (turnR v).2 (ifP (jR v k).2 (ifP (scaleV x y (jR v k).1).2.2 (applyR A B (scaleV x y (jR v k).1).1 (scaleV x y (jR v k).1).2.1))))
def metR (A B : Bd) (x y v k : Int) : (Bd × Bd) × Int := if v < 0 then pushR A B x y v k else ((A, B), 0)
/-- How far a body is put, and where. -/
def offR (A : Bd) (c : Int) : Int × Int := mulR c (lightR A).1
def offV (A : Bd) (x y c : Int) : Int × Int × Int := scaleV x y (offR A c).1
def backV (A : Bd) (x y c : Int) : Int × Int × Int := two (subR A.p (offV A x y c).1) (subR A.q (offV A x y c).2.1)
def forthV (A : Bd) (x y c : Int) : Int × Int × Int := two (addR A.p (offV A x y c).1) (addR A.q (offV A x y c).2.1)
def apartR (A B : Bd) (x y c : Int) : (Bd × Bd) × Int :=
  ifP (lightR A).2 (ifP (offR A c).2 (ifP (offV A x y c).2.2 (ifP (backV A x y c).2.2 (
  ifP (lightR B).2 (ifP (offR B c).2 (ifP (offV B x y c).2.2 (ifP (forthV B x y c).2.2 ((A.pos (backV A x y c).1 (backV A x y c).2.1, B.pos (forthV B x y c).1 (forthV B x y c).2.1), 0))))))))
def cR (d k : Int) : Int × Int := divR (d.tdiv 2) k
def thenR (r : (Bd × Bd) × Int) (x y d k : Int) : (Bd × Bd) × Int := ifP r.2 (ifP (cR d k).2 (apartR r.1.1 r.1.2 x y (cR d k).1))
/-- What Contact answers. -/
def contactR (A B : Bd) (h : Ht) : (Bd × Bd) × Int :=
  ifP (kR A B).2 (if (kR A B).1 = 0 then ((A, B), 0) else ifP (vR A B h.x h.y).2 (thenR (metR A B h.x h.y (vR A B h.x h.y).1 (kR A B).1) h.x h.y h.d (kR A B).1))

/-- What Joint answers. -/
def wayV (A B : Bd) : Int × Int × Int := two (subR B.p A.p) (subR B.q A.q)
def pullR (v l n : Int) : Int × Int := ifN (subR l n).2 (ifN (mulR (subR l n).1 34359738368).2 (addR v (mulR (subR l n).1 34359738368).1))
def heldR (A B : Bd) (x y t k : Int) : (Bd × Bd) × Int := ifP (subR 0 t).2 (ifP (divR (subR 0 t).1 k).2 (ifP (scaleV x y (divR (subR 0 t).1 k).1).2.2 (applyR A B (scaleV x y (divR (subR 0 t).1 k).1).1 (scaleV x y (divR (subR 0 t).1 k).1).2.1)))
def heldU (A B : Bd) (u : (Int × Int) × Int × Int) (n : Int) : (Bd × Bd) × Int :=
  ifP u.2.2 (if u.2.1 = 0 then ((A, B), 0) else ifP (kR A B).2 (if (kR A B).1 = 0 then ((A, B), 0) else
  ifP (vR A B u.1.1 u.1.2).2 (ifP (pullR (vR A B u.1.1 u.1.2).1 u.2.1 n).2 (heldR A B u.1.1 u.1.2 (pullR (vR A B u.1.1 u.1.2).1 u.2.1 n).1 (kR A B).1))))
def jointR (A B : Bd) (n : Int) : (Bd × Bd) × Int := ifP (wayV A B).2.2 (heldU A B (unitR (wayV A B).1 (wayV A B).2.1) n)

/-! ### All of these are int64s -/
theorem lightR_in (A : Bd) : inF (lightR A).1 := by unfold lightR; split; exact inF0; exact (divR_in _ _).1
theorem speedR_in (A : Bd) : inF (speedR A).1 ∧ inF (speedR A).2.1 := by unfold speedR; split; exact ⟨inF0, inF0⟩; exact two_in (divR_in _ _).1 (divR_in _ _).1
theorem kR_in (A B : Bd) : inF (kR A B).1 := behind_in (behind_in (addR_in _ _))
theorem ifN_in {k : Int} {t : Int × Int} (h : inF t.1) : inF (ifN k t).1 := by unfold ifN; split; exact h; exact inF0
theorem dotV_in (x y u v : Int) : inF (dotV x y u v).1 := by
  unfold dotV
  split
  · split
    · exact addR_in _ _
    · exact inF0
  · exact inF0
theorem vR_in (A B : Bd) (x y : Int) : inF (vR A B x y).1 := ifN_in (ifN_in (ifN_in (dotV_in _ _ _ _)))
theorem scaleV_in (x y j : Int) : inF (scaleV x y j).1 ∧ inF (scaleV x y j).2.1 := two_in (mulR_in _ _).1 (mulR_in _ _).1
theorem tdiv2_in {v : Int} (h : inF v) : inF (v.tdiv 2) := tdiv_in h (by decide) (by omega)
theorem put_in {t : Int × Int × Int} {f : Int → Int → Bd} (h : (f t.1 t.2.1).ok) : (put t f).1.ok := by
  unfold put
  split
  · exact h
  · exact ⟨inF0, inF0, inF0, inF0, inF0, inF0, inF0, inF0⟩
theorem lessM_in {A : Bd} (h : A.ok) (x y : Int) : (lessM A x y).1.ok := by
  unfold lessM
  split
  · exact h
  · exact put_in (h.mom (two_in (subR_in _ _) (subR_in _ _)).1 (two_in (subR_in _ _) (subR_in _ _)).2)
theorem plusM_in {A : Bd} (h : A.ok) (x y : Int) : (plusM A x y).1.ok := by
  unfold plusM
  split
  · exact h
  · exact put_in (h.mom (two_in (addR_in _ _) (addR_in _ _)).1 (two_in (addR_in _ _) (addR_in _ _)).2)
theorem noB_ok : noB.ok := ⟨inF0, inF0, inF0, inF0, inF0, inF0, inF0, inF0⟩
theorem ifP_in {k : Int} {r : (Bd × Bd) × Int} (h : r.1.1.ok ∧ r.1.2.ok) : (ifP k r).1.1.ok ∧ (ifP k r).1.2.ok := by
  unfold ifP
  split
  · exact h
  · exact ⟨noB_ok, noB_ok⟩
theorem applyR_in {A B : Bd} (h : A.ok) (g : B.ok) (x y : Int) : (applyR A B x y).1.1.ok ∧ (applyR A B x y).1.2.ok := ifP_in (ifP_in ⟨lessM_in h x y, plusM_in g x y⟩)
theorem metR_in {A B : Bd} (h : A.ok) (g : B.ok) (x y v k : Int) : (metR A B x y v k).1.1.ok ∧ (metR A B x y v k).1.2.ok := by
  unfold metR
  split
  · exact ifP_in (ifP_in (ifP_in (ifP_in (applyR_in h g _ _))))
  · exact ⟨h, g⟩
end Go.Proofs.YtnkhknmpffcfbaaGreat
