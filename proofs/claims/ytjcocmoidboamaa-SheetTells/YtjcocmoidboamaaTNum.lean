/-
  Package platter as plain numbers, no program in sight: a page is 128 bytes, a platter what chapter 13 says of it. Nothing is claimed here.
-/
import Derived.Test.YtjcocmoidboamaaNum
namespace Go.Proofs.Ytjcocmoidboamaa
open Go Go.RowKit

/-- A page, a row of pages, a write, as cells. -/
def pgV (b : ByteArray) : List Value := b.data.toList.map fun c => .int .u8 c.toNat
def zerosB (n : Nat) : ByteArray := ⟨(List.replicate n (0 : UInt8)).toArray⟩
structure Wr where
  n : Nat
  b : ByteArray
def wrV (x : Wr) : List Value := .int .i64 x.n :: pgV x.b
def pagesV (L : List ByteArray) : List Value := L.flatMap pgV
def wrsV (L : List Wr) : List Value := L.flatMap wrV
theorem zerosB_size (n : Nat) : (zerosB n).size = n := by
  show (List.replicate n (0 : UInt8)).toArray.size = n
  rw [List.size_toArray, List.length_replicate]
theorem pgV_len (b : ByteArray) : (pgV b).length = b.size := by
  rw [pgV, List.length_map, Array.length_toList]
  rfl
theorem wrV_len (x : Wr) : (wrV x).length = 1 + x.b.size := by simp [wrV, pgV_len]; omega
theorem pgV_one (b : ByteArray) : ∀ v ∈ pgV b, v.oneCell' = true := by
  intro v hv
  obtain ⟨c, _, rfl⟩ := List.mem_map.1 hv
  rfl
theorem wrV_one (x : Wr) : ∀ v ∈ wrV x, v.oneCell' = true := by
  intro v hv
  rcases List.mem_cons.1 hv with rfl | hv
  · rfl
  · exact pgV_one _ v hv

/-- The page i. -/
def pg (L : List ByteArray) (i : Nat) : ByteArray := L.getD i ByteArray.empty

/-- A platter. -/
structure Pl where
  now : List ByteArray
  last : List ByteArray
  float : List Wr
  left : Int
  dead : Bool
structure Pl.ok (P : Pl) : Prop where
  len : P.last.length = P.now.length
  pos : 0 < P.now.length
  top : P.now.length ≤ 200
  now : ∀ x ∈ P.now, x.size = 128
  last : ∀ x ∈ P.last, x.size = 128
  float : ∀ x ∈ P.float, x.n < P.now.length ∧ x.b.size = 128
  many : P.float.length ≤ 1000000
  left : inF P.left

def newP (n : Nat) : Pl := ⟨List.replicate n (zerosB 128), List.replicate n (zerosB 128), [], -1, false⟩
theorem newP_ok {n : Nat} (h0 : 0 < n) (h1 : n ≤ 200) : (newP n).ok := by
  refine ⟨by simp [newP], by simpa [newP] using h0, by simpa [newP] using h1, ?_, ?_, by simp [newP], by simp [newP], (⟨by decide, by decide⟩ : inF (-1))⟩ <;>
  · intro x hx
    rw [(List.mem_replicate.1 hx).2, zerosB_size]

def loadP (P : Pl) (n : Int) : ByteArray × Int :=
  if P.dead = true then (ByteArray.empty, 7) else if 0 ≤ n ∧ n < P.now.length then (pg P.now n.toNat, 0) else (ByteArray.empty, 6)

def storeP (P : Pl) (n : Int) (b : ByteArray) : Int × Pl :=
  if P.dead = true then (7, P) else if ¬ (0 ≤ n ∧ n < P.now.length) then (6, P) else if ¬ b.size = 128 then (9, P) else if P.left = 0 then (7, { P with dead := true })
  else (0, { P with now := P.now.set n.toNat b, float := P.float ++ [⟨n.toNat, b⟩], left := if 0 < P.left then P.left - 1 else P.left })
theorem storeP_ok {P : Pl} (h : P.ok) (hm : P.float.length < 1000000) (n : Int) (b : ByteArray) : (storeP P n b).2.ok := by
  unfold storeP
  split
  · exact h
  split
  · exact h
  split
  · exact h
  split
  · exact ⟨h.len, h.pos, h.top, h.now, h.last, h.float, h.many, h.left⟩
  · rename_i h1 h2 h3 h4
    have h2' : 0 ≤ n ∧ n < P.now.length := Classical.byContradiction h2
    have h3' : b.size = 128 := Classical.byContradiction h3
    have hl := h.left
    refine ⟨by simpa using h.len, by simpa using h.pos, by simpa using h.top, ?_, h.last, ?_, by simp; omega, ?_⟩
    · intro x hx
      rcases List.mem_or_eq_of_mem_set hx with hx | rfl
      · exact h.now x hx
      · exact h3'
    · intro x hx
      rcases List.mem_append.1 hx with hx | hx
      · simpa using h.float x hx
      · obtain rfl : x = ⟨n.toNat, b⟩ := by simpa using hx
        exact ⟨by simp; omega, h3'⟩
    · obtain ⟨hl0, hl1⟩ := hl
      show inF (if 0 < P.left then P.left - 1 else P.left)
      split <;> exact ⟨by omega, by omega⟩

/-- What is afloat comes to the pages. -/
def settleL : List Wr → List ByteArray → List ByteArray
  | [], L => L
  | x :: r, L => settleL r (L.set x.n x.b)
def settleP (P : Pl) : Int × Pl := if P.dead = true then (7, P) else (0, { P with last := settleL P.float P.last, float := [] })
theorem settleL_ok : ∀ (F : List Wr) (L : List ByteArray), (∀ x ∈ L, x.size = 128) → (∀ x ∈ F, x.b.size = 128) → (∀ x ∈ settleL F L, x.size = 128) ∧ (settleL F L).length = L.length
  | [], L, h, _ => ⟨h, rfl⟩
  | x :: r, L, h, g => by
    have := settleL_ok r (L.set x.n x.b) (fun y hy => by
      rcases List.mem_or_eq_of_mem_set hy with hy | rfl
      · exact h y hy
      · exact g x (by simp)) (fun y hy => g y (by simp [hy]))
    exact ⟨this.1, by rw [settleL, this.2, List.length_set]⟩
theorem settleL_drop (F : List Wr) (L : List ByteArray) (k : Nat) (x : Wr) (h : F[k]? = some x) : settleL (F.drop k) L = settleL (F.drop (k + 1)) (L.set x.n x.b) := by
  obtain ⟨hk, e⟩ := List.getElem?_eq_some_iff.1 h
  rw [List.drop_eq_getElem_cons hk, e, settleL]
theorem settleP_ok {P : Pl} (h : P.ok) : (settleP P).2.ok := by
  unfold settleP
  split
  · exact h
  · have := settleL_ok P.float P.last h.last fun x hx => (h.float x hx).2
    exact ⟨this.2.trans h.len, h.pos, h.top, h.now, this.1, by simp, by simp, h.left⟩

def haltP (P : Pl) (n : Int) : Pl := if P.dead = true then P else { P with left := n }
theorem haltP_ok {P : Pl} (h : P.ok) {n : Int} (hn : inF n) : (haltP P n).ok := by
  unfold haltP
  split
  · exact h
  · exact ⟨h.len, h.pos, h.top, h.now, h.last, h.float, h.many, hn⟩

/-- How many bytes of the k-th store come. -/
def cutN (cuts : List Int) (k : Nat) : Nat := if k < cuts.length then (min (max (cuts.getD k 0) 0) 128).toNat else 0
theorem cutN_le (cuts : List Int) (k : Nat) : cutN cuts k ≤ 128 := by
  unfold cutN
  split <;> omega
/-- The first c bytes of new over old. -/
def tear (old new : ByteArray) (c : Nat) : ByteArray := ⟨(new.data.toList.take c ++ old.data.toList.drop c).toArray⟩
theorem tear_size {old new : ByteArray} {c : Nat} (h : old.size = 128) (g : new.size = 128) (hc : c ≤ 128) : (tear old new c).size = 128 := by
  have h' : old.data.toList.length = 128 := h
  have g' : new.data.toList.length = 128 := g
  show (new.data.toList.take c ++ old.data.toList.drop c).toArray.size = 128
  rw [List.size_toArray, List.length_append, List.length_take, List.length_drop, h', g']
  omega
theorem tear_cells (old new : ByteArray) (c : Nat) : pgV (tear old new c) = (pgV new).take c ++ (pgV old).drop c := by
  simp [pgV, tear, List.map_take, List.map_drop]
def failL (cuts : List Int) : Nat → List Wr → Int × List ByteArray → Int × List ByteArray
  | _, [], r => r
  | k, x :: F, r => failL cuts (k + 1) F (if 0 < cutN cuts k then r.1 + 1 else r.1, r.2.set x.n (tear (pg r.2 x.n) x.b (cutN cuts k)))
def failP (P : Pl) (cuts : List Int) : Int × Pl :=
  let r := failL cuts 0 P.float (0, P.last)
  (r.1, ⟨r.2, r.2, [], -1, false⟩)
theorem pg_mem {L : List ByteArray} {i : Nat} (h : i < L.length) : pg L i ∈ L := by simp [pg, List.getD, List.getElem?_eq_getElem h]
theorem pg_get {L : List ByteArray} {i : Nat} (h : i < L.length) : L[i]? = some (pg L i) := by simp [pg, List.getD, List.getElem?_eq_getElem h]
theorem failL_ok (cuts : List Int) : ∀ (F : List Wr) (k : Nat) (r : Int × List ByteArray), (∀ x ∈ r.2, x.size = 128) → (∀ x ∈ F, x.n < r.2.length ∧ x.b.size = 128) → (∀ x ∈ (failL cuts k F r).2, x.size = 128) ∧ (failL cuts k F r).2.length = r.2.length
  | [], _, r, h, _ => ⟨h, rfl⟩
  | x :: F, k, r, h, g => by
    have hx := g x (by simp)
    have := failL_ok cuts F (k + 1) (if 0 < cutN cuts k then r.1 + 1 else r.1, r.2.set x.n (tear (pg r.2 x.n) x.b (cutN cuts k))) (fun y hy => by
      rcases List.mem_or_eq_of_mem_set hy with hy | rfl
      · exact h y hy
      · exact tear_size (h _ (pg_mem hx.1)) hx.2 (cutN_le _ _)) (fun y hy => by simpa using g y (by simp [hy]))
    exact ⟨this.1, by rw [failL, this.2, List.length_set]⟩
theorem failL_drop (cuts : List Int) (F : List Wr) (r : Int × List ByteArray) (k : Nat) (x : Wr) (h : F[k]? = some x) :
    failL cuts k (F.drop k) r = failL cuts (k + 1) (F.drop (k + 1)) (if 0 < cutN cuts k then r.1 + 1 else r.1, r.2.set x.n (tear (pg r.2 x.n) x.b (cutN cuts k))) := by
  obtain ⟨hk, e⟩ := List.getElem?_eq_some_iff.1 h
  rw [List.drop_eq_getElem_cons hk, e, failL]
theorem failP_ok {P : Pl} (h : P.ok) (cuts : List Int) : (failP P cuts).2.ok := by
  have := failL_ok cuts P.float 0 (0, P.last) h.last (fun x hx => by rw [h.len]; exact h.float x hx)
  have hl : (failL cuts 0 P.float (0, P.last)).2.length = P.now.length := this.2.trans h.len
  exact ⟨rfl, Nat.lt_of_lt_of_eq h.pos hl.symm, Nat.le_trans (Nat.le_of_eq hl) h.top, this.1, this.1, by simp [failP], by simp [failP], (⟨by decide, by decide⟩ : inF (-1))⟩

/-- A page that begins with bytes. -/
def fillB (b : ByteArray) : ByteArray := if 128 < b.size then b.extract 0 128 else b ++ zerosB (128 - b.size)
theorem fillB_size (b : ByteArray) : (fillB b).size = 128 := by
  unfold fillB
  split
  · rw [ByteArray.size_extract]; omega
  · rw [ByteArray.size_append, zerosB_size]; omega
end Go.Proofs.Ytjcocmoidboamaa
