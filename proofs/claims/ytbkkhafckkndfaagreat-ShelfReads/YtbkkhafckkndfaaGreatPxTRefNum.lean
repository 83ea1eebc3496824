/-
  The document's own platter as plain numbers (maquetteref13's Platter), and that it answers as the plain one does. No program in sight.
-/
import Derived.Test.YtbkkhafckkndfaaGreatPk01
namespace Go.Proofs.YtbkkhafckkndfaaGreat
open Go Go.RowKit

structure Rp where
  last : List ByteArray
  float : List Wr
  dead : Bool
  after : Int
structure Rp.ok (R : Rp) : Prop where
  top : R.last.length ≤ 200
  last : ∀ x ∈ R.last, x.size = 128
  float : ∀ x ∈ R.float, x.n < R.last.length ∧ x.b.size = 128
  many : R.float.length ≤ 1000000
  after : inF R.after
/-- The same platter: as the code has it, as the document has it. -/
structure Sim (P : Pl) (R : Rp) : Prop where
  ok : P.ok
  last : R.last = P.last
  float : R.float = P.float
  dead : R.dead = P.dead
  after : R.after = max P.left (-1)
  now : P.now = settleL P.float P.last
theorem Sim.rok {P : Pl} {R : Rp} (h : Sim P R) : R.ok := by
  obtain ⟨h0, h1, h2, h3, h4, h5⟩ := h
  have hl := h0.left
  refine ⟨by rw [h1, h0.len]; exact h0.top, by rw [h1]; exact h0.last, by rw [h1, h2, h0.len]; exact h0.float, by rw [h2]; exact h0.many, ?_⟩
  rw [h4]
  obtain ⟨a, b⟩ := hl
  constructor <;> omega

theorem set_len_pg {L : List ByteArray} {i j : Nat} {x : ByteArray} (hi : i < L.length) : pg (L.set i x) j = if j = i then x else pg L j := by
  unfold pg List.getD
  rw [List.getElem?_set]
  by_cases e : i = j
  · subst e; simp [hi]
  · have : ¬ j = i := fun q => e q.symm
    simp [e, this]
theorem settle_len (F : List Wr) : ∀ (L : List ByteArray), (settleL F L).length = L.length := by
  induction F with
  | nil => exact fun L => rfl
  | cons y F ih => exact fun L => by rw [settleL, ih, List.length_set]
theorem settle_append (F : List Wr) (x : Wr) : ∀ (L : List ByteArray), settleL (F ++ [x]) L = (settleL F L).set x.n x.b := by
  induction F with
  | nil => exact fun L => rfl
  | cons y F ih => exact fun L => ih _
/-- What no write of the rest speaks of is as it was. -/
theorem settle_none (F : List Wr) (n : Nat) : ∀ (L : List ByteArray), (∀ x ∈ F, x.n < L.length) → (∀ x ∈ F, x.n ≠ n) → pg (settleL F L) n = pg L n := by
  induction F with
  | nil => exact fun L _ _ => rfl
  | cons y F ih =>
    intro L h g
    have hy := h y (by simp)
    rw [settleL, ih _ (fun x hx => by simpa using h x (by simp [hx])) (fun x hx => g x (by simp [hx])), set_len_pg hy, if_neg (fun e => g y (by simp) e.symm)]
/-- The last write of a page is what it holds. -/
theorem settle_last (F : List Wr) (L : List ByteArray) (h : ∀ x ∈ F, x.n < L.length) (k : Nat) (x : Wr) (hk : F[k]? = some x) (hl : ∀ j y, k < j → F[j]? = some y → y.n ≠ x.n) : pg (settleL F L) x.n = x.b := by
  obtain ⟨hk', e⟩ := List.getElem?_eq_some_iff.1 hk
  have hx := h x (e ▸ List.getElem_mem hk')
  have split : F = F.take k ++ (x :: F.drop (k + 1)) := by rw [← e, ← List.drop_eq_getElem_cons hk', List.take_append_drop]
  have happ : ∀ (A B : List Wr) (M : List ByteArray), settleL (A ++ B) M = settleL B (settleL A M) := by
    intro A
    induction A with
    | nil => exact fun B M => rfl
    | cons a A ih => exact fun B M => ih B _
  rw [split, happ, settleL, settle_none _ x.n, set_len_pg (by rw [settle_len]; exact hx), if_pos rfl]
  · intro y hy
    rw [List.length_set, settle_len]
    exact h y (List.mem_of_mem_drop hy)
  · intro y hy
    obtain ⟨j, hj, e2⟩ := List.mem_iff_getElem.1 hy
    refine hl (k + 1 + j) y (by omega) ?_
    rw [List.getElem?_eq_getElem (by rw [List.length_drop] at hj; omega), ← e2, List.getElem_drop]

def loadQ (R : Rp) (n : Int) : ByteArray × Int :=
  if R.dead = true then (ByteArray.empty, 7) else if 0 ≤ n ∧ n < R.last.length then (pg (settleL R.float R.last) n.toNat, 0) else (ByteArray.empty, 6)
def storeQ (R : Rp) (n : Int) (b : ByteArray) : Int × Rp :=
  if R.dead = true then (7, R) else if ¬ (0 ≤ n ∧ n < R.last.length) then (6, R) else if ¬ b.size = 128 then (9, R) else if R.after = 0 then (7, { R with dead := true })
  else (0, { R with float := R.float ++ [⟨n.toNat, b⟩], after := if 0 < R.after then R.after - 1 else R.after })
def settleQ (R : Rp) : Int × Rp := if R.dead = true then (7, R) else (0, { R with last := settleL R.float R.last, float := [] })
def haltQ (R : Rp) (n : Int) : Rp := if R.dead = true then R else { R with after := max n (-1) }
def failQ (R : Rp) (cuts : List Int) : Int × Rp :=
  let r := failL cuts 0 R.float (0, R.last)
  (r.1, ⟨r.2, [], false, -1⟩)
def newQ (n : Nat) : Rp := ⟨List.replicate n (zerosB 128), [], false, -1⟩

theorem sim_new {n : Nat} (h0 : 0 < n) (h1 : n ≤ 200) : Sim (newP n) (newQ n) := ⟨newP_ok h0 h1, rfl, rfl, rfl, rfl, rfl⟩
/-- The document's platter beside the plain one. -/
def toQ (P : Pl) : Rp := ⟨P.last, P.float, P.dead, max P.left (-1)⟩
theorem sim_to {P : Pl} {R : Rp} (h : Sim P R) : R = toQ P := by
  obtain ⟨l, f, d, a⟩ := R
  obtain ⟨_, h1, h2, h3, h4, _⟩ := h
  simp only at h1 h2 h3 h4
  subst h1 h2 h3 h4
  rfl
theorem sim_of {P : Pl} (ok : P.ok) (h : P.now = settleL P.float P.last) : Sim P (toQ P) := ⟨ok, rfl, rfl, rfl, rfl, h⟩
theorem sim_load {P : Pl} {R : Rp} (h : Sim P R) (n : Int) : loadQ R n = loadP P n := by
  unfold loadQ loadP
  rw [h.dead, h.last, h.float, ← h.now, h.ok.len]
theorem sim_store {P : Pl} {R : Rp} (h : Sim P R) (hm : P.float.length < 1000000) (n : Int) (b : ByteArray) : (storeQ R n b).1 = (storeP P n b).1 ∧ Sim (storeP P n b).2 (storeQ R n b).2 := by
  have hok := storeP_ok h.ok hm n b
  have hnow := h.now
  have hlen := h.ok.len
  have hi := h.ok.left
  rw [sim_to h]
  revert hok
  unfold storeQ storeP
  by_cases h1 : P.dead = true
  · rw [if_pos h1, if_pos (show (toQ P).dead = true from h1)]; exact fun _ => ⟨rfl, sim_of h.ok hnow⟩
  rw [if_neg h1, if_neg (show ¬ (toQ P).dead = true from h1)]
  by_cases h2 : ¬ (0 ≤ n ∧ n < P.now.length)
  · rw [if_pos h2, if_pos (show ¬ (0 ≤ n ∧ n < (toQ P).last.length) by show ¬ (0 ≤ n ∧ n < P.last.length); rw [hlen]; exact h2)]; exact fun _ => ⟨rfl, sim_of h.ok hnow⟩
  rw [if_neg h2, if_neg (show ¬ ¬ (0 ≤ n ∧ n < (toQ P).last.length) by show ¬ ¬ (0 ≤ n ∧ n < P.last.length); rw [hlen]; exact h2)]
  by_cases h3 : ¬ b.size = 128
  · rw [if_pos h3, if_pos h3]; exact fun _ => ⟨rfl, sim_of h.ok hnow⟩
  rw [if_neg h3, if_neg h3]
  by_cases h4 : P.left = 0
  · rw [if_pos h4, if_pos (show (toQ P).after = 0 by show max P.left (-1) = 0; omega)]
    exact fun ok => ⟨rfl, ok, rfl, rfl, rfl, rfl, hnow⟩
  · rw [if_neg h4, if_neg (show ¬ (toQ P).after = 0 by show ¬ max P.left (-1) = 0; omega)]
    refine fun ok => ⟨rfl, ok, rfl, rfl, rfl, ?_, ?_⟩
    · show (if 0 < max P.left (-1) then max P.left (-1) - 1 else max P.left (-1)) = max (if 0 < P.left then P.left - 1 else P.left) (-1)
      split <;> split <;> omega
    · show P.now.set n.toNat b = settleL (P.float ++ [⟨n.toNat, b⟩]) P.last
      rw [settle_append, ← hnow]
theorem sim_settle {P : Pl} {R : Rp} (h : Sim P R) : (settleQ R).1 = (settleP P).1 ∧ Sim (settleP P).2 (settleQ R).2 := by
  have hok := settleP_ok h.ok
  have hnow := h.now
  rw [sim_to h]
  revert hok
  unfold settleQ settleP
  by_cases h1 : P.dead = true
  · rw [if_pos h1, if_pos (show (toQ P).dead = true from h1)]; exact fun _ => ⟨rfl, sim_of h.ok hnow⟩
  · rw [if_neg h1, if_neg (show ¬ (toQ P).dead = true from h1)]
    exact fun ok => ⟨rfl, ok, rfl, rfl, rfl, rfl, hnow⟩
theorem sim_halt {P : Pl} {R : Rp} (h : Sim P R) {n : Int} (hn : inF n) : Sim (haltP P n) (haltQ R n) := by
  have hok := haltP_ok h.ok hn
  have hnow := h.now
  rw [sim_to h]
  revert hok
  unfold haltQ haltP
  by_cases h1 : P.dead = true
  · rw [if_pos h1, if_pos (show (toQ P).dead = true from h1)]; exact fun _ => sim_of h.ok hnow
  · rw [if_neg h1, if_neg (show ¬ (toQ P).dead = true from h1)]
    exact fun ok => ⟨ok, rfl, rfl, rfl, rfl, hnow⟩
theorem sim_fail {P : Pl} {R : Rp} (h : Sim P R) (cuts : List Int) : (failQ R cuts).1 = (failP P cuts).1 ∧ Sim (failP P cuts).2 (failQ R cuts).2 := by
  have hok := failP_ok h.ok cuts
  rw [sim_to h]
  exact ⟨rfl, hok, rfl, rfl, rfl, rfl, rfl⟩
end Go.Proofs.YtbkkhafckkndfaaGreat
