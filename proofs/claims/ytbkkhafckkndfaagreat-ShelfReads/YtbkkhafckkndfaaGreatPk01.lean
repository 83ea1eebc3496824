/-
  Plain numbers, no program in sight: what chapter 1's calls answer, as functions of whole numbers, and the bits that the code looks at. Nothing is claimed here. Package platter as plain numbers, no program in sight: a page is 128 bytes, a platter what chapter 13 says of it. Nothing is claimed here. Numbers as bytes, the greatest first; crowns as bytes, and back (chapter 14), as plain lists; no program in sight. Pages of records (chapter 15) as plain lists of bytes; no program in sight: pieces (chains), indexes. Worlds that grew (Grew): what was there stays, the tape too; a world in which one block's cells may have been written besides (Past); a slice of int64s that lies in memory (Row). append, whatever is appended: what the slice owned it owns still, and the new one owns both. No program in sight. Worlds in which some blocks may have been written, with no word on marks (But), and what a call owns there. No program in sight. A platter in memory: its block, its rows of pages, its writes; what a store of many cells, a copy, leaves of them. No call in sight. What package platter's small calls do at a platter that lies in memory: none, has, Halted, Afloat, Pages, Halt, Load, cutAt; and the statements' Zeros and Fill. What package crown's number and big do, and the document's own Of and Big.
-/
import Derived.WalkKit
import Derived.Laws.BitsLemmas
import Derived.Laws.Bits64b
import Derived.Test.YtbkkhafckkndfaaGreatRows
import Derived.WalkSpells
import Derived.WalkLawsBesides
import Derived.Below
import Derived.Recover
import Derived.OwnWalk
import Derived.Laws.OwnMore
import Derived.LoopTactic
import Derived.Deep.MidRow
import Derived.Deep.RegionLaw
import Derived.Laws.BytesArg
import Derived.Laws.Concat
import Derived.Laws.BitsAllLaws
import Derived.Deep.OwnRows
namespace Go.Proofs.YtbkkhafckkndfaaGreat
open Go Go.RowKit

/-- What an int64 can be. -/
def inF (x : Int) : Prop := -9223372036854775808 ≤ x ∧ x ≤ 9223372036854775807
/-- The amount of a number. -/
def ab (x : Int) : Int := if x < 0 then -x else x
/-- A number of an amount and a sign, or the error 3. -/
def sgR (neg : Bool) (m : Int) : Int × Int := if neg = true then (if m ≤ 9223372036854775808 then (-m, 0) else (0, 3)) else (if m < 9223372036854775808 then (m, 0) else (0, 3))
/-- What is in the range, or the error 3. -/
def inR (x : Int) : Int × Int := if -9223372036854775808 ≤ x ∧ x ≤ 9223372036854775807 then (x, 0) else (0, 3)
def sgn (a b : Int) : Bool := decide (a < 0) != decide (b < 0)
def mulM (a b : Int) : Int := ab a * ab b / 4294967296
def divM (a b : Int) : Int := ab a * 4294967296 / ab b
def addR (a b : Int) : Int × Int := inR (a + b)
def subR (a b : Int) : Int × Int := inR (a - b)
def mulR (a b : Int) : Int × Int := sgR (sgn a b) (mulM a b)
def divR (a b : Int) : Int × Int := if b = 0 then (0, 4) else sgR (sgn a b) (divM a b)
def ofR (n : Int) : Int × Int := inR (n * 4294967296)

theorem inF_wf {x : Int} (h : (Lit.int .i64 x).wf = true) : inF x := by
  simp [Lit.wf, IntKind.min, IntKind.max, IntKind.signed, IntKind.bits] at h
  exact ⟨by omega, by omega⟩
theorem inR_ok {x : Int} (h : -9223372036854775808 ≤ x ∧ x ≤ 9223372036854775807) : inR x = (x, 0) := by unfold inR; rw [if_pos h]
theorem inR_no {x : Int} (h : ¬ (-9223372036854775808 ≤ x ∧ x ≤ 9223372036854775807)) : inR x = (0, 3) := by unfold inR; rw [if_neg h]
theorem inR_cases (x : Int) : (inR x = (x, 0) ∧ -9223372036854775808 ≤ x ∧ x ≤ 9223372036854775807) ∨ (inR x = (0, 3) ∧ ¬ (-9223372036854775808 ≤ x ∧ x ≤ 9223372036854775807)) := by
  by_cases h : -9223372036854775808 ≤ x ∧ x ≤ 9223372036854775807
  · exact Or.inl ⟨inR_ok h, h⟩
  · exact Or.inr ⟨inR_no h, h⟩
theorem inR_in (x : Int) : inF (inR x).1 ∧ 0 ≤ (inR x).2 ∧ (inR x).2 ≤ 3 := by
  rcases inR_cases x with ⟨h, g⟩ | ⟨h, g⟩ <;> rw [h]
  · exact ⟨g, Int.le_refl 0, show (0 : Int) ≤ 3 by decide⟩
  · exact ⟨⟨by decide, by decide⟩, by decide, by decide⟩
theorem ab_of (x : Int) : (x < 0 ∧ ab x = -x) ∨ (0 ≤ x ∧ ab x = x) := by
  unfold ab; split
  · exact Or.inl ⟨by assumption, rfl⟩
  · exact Or.inr ⟨by omega, rfl⟩
theorem ab_nonneg (x : Int) : 0 ≤ ab x := by have := ab_of x; omega
theorem ab_le {x : Int} (h : inF x) : ab x ≤ 9223372036854775808 := by have := ab_of x; unfold inF at h; omega
theorem ab_neg (x : Int) : ab (-x) = ab x := by have := ab_of x; have := ab_of (-x); omega
theorem ab_pos {x : Int} (h : x ≠ 0) : 1 ≤ ab x := by have := ab_of x; omega
theorem sgR_cases (neg : Bool) (m : Int) :
    (neg = true ∧ m ≤ 9223372036854775808 ∧ sgR neg m = (-m, 0)) ∨ (neg = false ∧ m < 9223372036854775808 ∧ sgR neg m = (m, 0)) ∨ (9223372036854775808 ≤ m ∧ ¬ (neg = true ∧ m = 9223372036854775808) ∧ sgR neg m = (0, 3)) := by
  unfold sgR
  cases neg
  · rw [if_neg (by decide)]
    by_cases h : m < 9223372036854775808
    · rw [if_pos h]; exact Or.inr (Or.inl ⟨rfl, h, rfl⟩)
    · rw [if_neg h]; exact Or.inr (Or.inr ⟨by omega, by simp, rfl⟩)
  · rw [if_pos rfl]
    by_cases h : m ≤ 9223372036854775808
    · rw [if_pos h]; exact Or.inl ⟨rfl, h, rfl⟩
    · rw [if_neg h]; exact Or.inr (Or.inr ⟨by omega, by omega, rfl⟩)
theorem sgR_in (neg : Bool) (m : Int) (h0 : 0 ≤ m) : inF (sgR neg m).1 ∧ 0 ≤ (sgR neg m).2 ∧ (sgR neg m).2 ≤ 3 := by
  unfold inF
  rcases sgR_cases neg m with ⟨_, _, h⟩ | ⟨_, _, h⟩ | ⟨_, _, h⟩ <;> rw [h] <;> simp <;> omega
theorem mulM_nonneg (a b : Int) : 0 ≤ mulM a b := Int.ediv_nonneg (Int.mul_nonneg (ab_nonneg a) (ab_nonneg b)) (by decide)
theorem divM_nonneg (a b : Int) : 0 ≤ divM a b := Int.ediv_nonneg (Int.mul_nonneg (ab_nonneg a) (by decide)) (ab_nonneg b)
theorem mulM_comm (a b : Int) : mulM a b = mulM b a := by unfold mulM; rw [Int.mul_comm]
theorem sgn_comm (a b : Int) : sgn a b = sgn b a := by unfold sgn; cases decide (a < 0) <;> cases decide (b < 0) <;> rfl
theorem addR_comm (a b : Int) : addR a b = addR b a := by unfold addR; rw [Int.add_comm]
theorem mulR_comm (a b : Int) : mulR a b = mulR b a := by unfold mulR; rw [mulM_comm, sgn_comm]
theorem mulR_in (a b : Int) : inF (mulR a b).1 ∧ 0 ≤ (mulR a b).2 ∧ (mulR a b).2 ≤ 3 := sgR_in _ _ (mulM_nonneg a b)
theorem divR_in (a b : Int) : inF (divR a b).1 ∧ 0 ≤ (divR a b).2 ∧ (divR a b).2 ≤ 4 := by
  unfold divR
  by_cases h : b = 0
  · rw [if_pos h]; exact ⟨⟨by decide, by decide⟩, by decide, by decide⟩
  · rw [if_neg h]; have := sgR_in (sgn a b) (divM a b) (divM_nonneg a b); exact ⟨this.1, this.2.1, by omega⟩

/-! ### Bits of an int64, and of a uint64 -/
theorem i64_wrap_lt0 (v : BitVec 64) : IntKind.i64.wrap (v.toNat : Int) < 0 ↔ v.msb = true := by
  rw [IntKind.wrap_i64, BitVec.msb_eq_decide]
  have := v.isLt
  simp
  omega
theorem ofInt_msb (x : Int) (h : -9223372036854775808 ≤ x ∧ x ≤ 9223372036854775807) : (BitVec.ofInt 64 x).msb = decide (x < 0) := by
  rw [BitVec.msb_eq_decide]
  simp [BitVec.toNat_ofInt]
  omega
theorem bits_and_lt0 (x y : Int) (hx : -9223372036854775808 ≤ x ∧ x ≤ 9223372036854775807) (hy : -9223372036854775808 ≤ y ∧ y ≤ 9223372036854775807) :
    bits .and .i64 x y < 0 ↔ x < 0 ∧ y < 0 := by
  unfold bits
  show IntKind.i64.wrap (((BitVec.ofInt 64 x &&& BitVec.ofInt 64 y : BitVec 64)).toNat : Int) < 0 ↔ _
  rw [i64_wrap_lt0, BitVec.msb_and, ofInt_msb x hx, ofInt_msb y hy]
  simp
theorem bits_xor_lt0 (x y : Int) (hx : -9223372036854775808 ≤ x ∧ x ≤ 9223372036854775807) (hy : -9223372036854775808 ≤ y ∧ y ≤ 9223372036854775807) :
    bits .xor .i64 x y < 0 ↔ ¬ (x < 0 ↔ y < 0) := by
  unfold bits
  show IntKind.i64.wrap (((BitVec.ofInt 64 x ^^^ BitVec.ofInt 64 y : BitVec 64)).toNat : Int) < 0 ↔ _
  rw [i64_wrap_lt0, BitVec.msb_xor, ofInt_msb x hx, ofInt_msb y hy]
  by_cases h1 : x < 0 <;> by_cases h2 : y < 0 <;> simp [h1, h2]
theorem bits_in (op : BinOp) (x y : Int) : -9223372036854775808 ≤ bits op .i64 x y ∧ bits op .i64 x y ≤ 9223372036854775807 := bits_within op .i64 x y
theorem wrap64_of (x : Int) : wrap64 x = (x + 9223372036854775808) % 18446744073709551616 - 9223372036854775808 := by unfold wrap64; rfl
theorem add_bits (a b : Int) (ha : inF a) (hb : inF b) :
    bits .and .i64 (bits .xor .i64 a (wrap64 (a + b))) (bits .xor .i64 b (wrap64 (a + b))) < 0 ↔ ¬ (-9223372036854775808 ≤ a + b ∧ a + b ≤ 9223372036854775807) := by
  unfold inF at ha hb
  have hw : -9223372036854775808 ≤ wrap64 (a + b) ∧ wrap64 (a + b) ≤ 9223372036854775807 := by rw [wrap64_of]; omega
  rw [bits_and_lt0 _ _ (bits_in _ _ _) (bits_in _ _ _), bits_xor_lt0 _ _ ha hw, bits_xor_lt0 _ _ hb hw, wrap64_of]
  omega
theorem sub_bits (a b : Int) (ha : inF a) (hb : inF b) :
    bits .and .i64 (bits .xor .i64 a b) (bits .xor .i64 a (wrap64 (a - b))) < 0 ↔ ¬ (-9223372036854775808 ≤ a - b ∧ a - b ≤ 9223372036854775807) := by
  unfold inF at ha hb
  have hw : -9223372036854775808 ≤ wrap64 (a - b) ∧ wrap64 (a - b) ≤ 9223372036854775807 := by rw [wrap64_of]; omega
  rw [bits_and_lt0 _ _ (bits_in _ _ _) (bits_in _ _ _), bits_xor_lt0 _ _ ha hb, bits_xor_lt0 _ _ ha hw, wrap64_of]
  omega
/-- Two halves of a uint64 that do not meet. -/
theorem or_halves (h l : Int) (h0 : 0 ≤ h) (h1 : h < 4294967296) (l0 : 0 ≤ l) (l1 : l < 4294967296) : bits .or .u64 (h * 4294967296) l = h * 4294967296 + l :=
  bits_join .u64 64 (by decide) (fun n h0 h1 => by rw [IntKind.wrap_u64]; omega) 32 _ _ (by omega) (by omega) (by omega) (by omega) (by omega) (by omega)
end Go.Proofs.YtbkkhafckkndfaaGreat

namespace Go.Proofs.YtbkkhafckkndfaaGreat
open Go Go.RowKit

/-- A page, a row of pages, a write, as cells. -/
def pgV (b : ByteArray) : List Value := b.data.toList.map fun c => .int .u8 c.toNat
def zerosB (n : Nat) : ByteArray := ⟨(List.replicate n (0 : UInt8)).toArray⟩
structure Wr where
  n : Nat
  b : ByteArray
def wrV (x : Wr) : List Value := .int .i64 x.n :: pgV x.b
def pagesV (L : List ByteArray) : List Value := L.flatMap pgV
def wrsV (L : List Wr) : List Value := L.flatMap wrV
theorem zerosB_size (n : Nat) : (zerosB n).size = n := by
  show (List.replicate n (0 : UInt8)).toArray.size = n
  rw [List.size_toArray, List.length_replicate]
theorem pgV_len (b : ByteArray) : (pgV b).length = b.size := by
  rw [pgV, List.length_map, Array.length_toList]
  rfl
theorem wrV_len (x : Wr) : (wrV x).length = 1 + x.b.size := by simp [wrV, pgV_len]; omega
theorem pgV_one (b : ByteArray) : ∀ v ∈ pgV b, v.oneCell' = true := by
  intro v hv
  obtain ⟨c, _, rfl⟩ := List.mem_map.1 hv
  rfl
theorem wrV_one (x : Wr) : ∀ v ∈ wrV x, v.oneCell' = true := by
  intro v hv
  rcases List.mem_cons.1 hv with rfl | hv
  · rfl
  · exact pgV_one _ v hv

/-- The page i. -/
def pg (L : List ByteArray) (i : Nat) : ByteArray := L.getD i ByteArray.empty

/-- A platter. -/
structure Pl where
  now : List ByteArray
  last : List ByteArray
  float : List Wr
  left : Int
  dead : Bool
structure Pl.ok (P : Pl) : Prop where
  len : P.last.length = P.now.length
  pos : 0 < P.now.length
  top : P.now.length ≤ 200
  now : ∀ x ∈ P.now, x.size = 128
  last : ∀ x ∈ P.last, x.size = 128
  float : ∀ x ∈ P.float, x.n < P.now.length ∧ x.b.size = 128
  many : P.float.length ≤ 1000000
  left : inF P.left

def newP (n : Nat) : Pl := ⟨List.replicate n (zerosB 128), List.replicate n (zerosB 128), [], -1, false⟩
theorem newP_ok {n : Nat} (h0 : 0 < n) (h1 : n ≤ 200) : (newP n).ok := by
  refine ⟨by simp [newP], by simpa [newP] using h0, by simpa [newP] using h1, ?_, ?_, by simp [newP], by simp [newP], (⟨by decide, by decide⟩ : inF (-1))⟩ <;>
  · intro x hx
    rw [(List.mem_replicate.1 hx).2, zerosB_size]

def loadP (P : Pl) (n : Int) : ByteArray × Int :=
  if P.dead = true then (ByteArray.empty, 7) else if 0 ≤ n ∧ n < P.now.length then (pg P.now n.toNat, 0) else (ByteArray.empty, 6)

def storeP (P : Pl) (n : Int) (b : ByteArray) : Int × Pl :=
  if P.dead = true then (7, P) else if ¬ (0 ≤ n ∧ n < P.now.length) then (6, P) else if ¬ b.size = 128 then (9, P) else if P.left = 0 then (7, { P with dead := true })
  else (0, { P with now := P.now.set n.toNat b, float := P.float ++ [⟨n.toNat, b⟩], left := if 0 < P.left then P.left - 1 else P.left })
theorem storeP_ok {P : Pl} (h : P.ok) (hm : P.float.length < 1000000) (n : Int) (b : ByteArray) : (storeP P n b).2.ok := by
  unfold storeP
  split
  · exact h
  split
  · exact h
  split
  · exact h
  split
  · exact ⟨h.len, h.pos, h.top, h.now, h.last, h.float, h.many, h.left⟩
  · rename_i h1 h2 h3 h4
    have h2' : 0 ≤ n ∧ n < P.now.length := Classical.byContradiction h2
    have h3' : b.size = 128 := Classical.byContradiction h3
    have hl := h.left
    refine ⟨by simpa using h.len, by simpa using h.pos, by simpa using h.top, ?_, h.last, ?_, by simp; omega, ?_⟩
    · intro x hx
      rcases List.mem_or_eq_of_mem_set hx with hx | rfl
      · exact h.now x hx
      · exact h3'
    · intro x hx
      rcases List.mem_append.1 hx with hx | hx
      · simpa using h.float x hx
      · obtain rfl : x = ⟨n.toNat, b⟩ := by simpa using hx
        exact ⟨by simp; omega, h3'⟩
    · obtain ⟨hl0, hl1⟩ := hl
      show inF (if 0 < P.left then P.left - 1 else P.left)
      split <;> exact ⟨by omega, by omega⟩

/-- What is afloat comes to the pages. -/
def settleL : List Wr → List ByteArray → List ByteArray
  | [], L => L
  | x :: r, L => settleL r (L.set x.n x.b)
def settleP (P : Pl) : Int × Pl := if P.dead = true then (7, P) else (0, { P with last := settleL P.float P.last, float := [] })
theorem settleL_ok : ∀ (F : List Wr) (L : List ByteArray), (∀ x ∈ L, x.size = 128) → (∀ x ∈ F, x.b.size = 128) → (∀ x ∈ settleL F L, x.size = 128) ∧ (settleL F L).length = L.length
  | [], L, h, _ => ⟨h, rfl⟩
  | x :: r, L, h, g => by
    have := settleL_ok r (L.set x.n x.b) (fun y hy => by
      rcases List.mem_or_eq_of_mem_set hy with hy | rfl
      · exact h y hy
      · exact g x (by simp)) (fun y hy => g y (by simp [hy]))
    exact ⟨this.1, by rw [settleL, this.2, List.length_set]⟩
theorem settleL_drop (F : List Wr) (L : List ByteArray) (k : Nat) (x : Wr) (h : F[k]? = some x) : settleL (F.drop k) L = settleL (F.drop (k + 1)) (L.set x.n x.b) := by
  obtain ⟨hk, e⟩ := List.getElem?_eq_some_iff.1 h
  rw [List.drop_eq_getElem_cons hk, e, settleL]
theorem settleP_ok {P : Pl} (h : P.ok) : (settleP P).2.ok := by
  unfold settleP
  split
  · exact h
  · have := settleL_ok P.float P.last h.last fun x hx => (h.float x hx).2
    exact ⟨this.2.trans h.len, h.pos, h.top, h.now, this.1, by simp, by simp, h.left⟩

def haltP (P : Pl) (n : Int) : Pl := if P.dead = true then P else { P with left := n }
theorem haltP_ok {P : Pl} (h : P.ok) {n : Int} (hn : inF n) : (haltP P n).ok := by
  unfold haltP
  split
  · exact h
  · exact ⟨h.len, h.pos, h.top, h.now, h.last, h.float, h.many, hn⟩

/-- How many bytes of the k-th store come. -/
def cutN (cuts : List Int) (k : Nat) : Nat := if k < cuts.length then (min (max (cuts.getD k 0) 0) 128).toNat else 0
theorem cutN_le (cuts : List Int) (k : Nat) : cutN cuts k ≤ 128 := by
  unfold cutN
  split <;> omega
/-- The first c bytes of new over old. -/
def tear (old new : ByteArray) (c : Nat) : ByteArray := ⟨(new.data.toList.take c ++ old.data.toList.drop c).toArray⟩
theorem tear_size {old new : ByteArray} {c : Nat} (h : old.size = 128) (g : new.size = 128) (hc : c ≤ 128) : (tear old new c).size = 128 := by
  have h' : old.data.toList.length = 128 := h
  have g' : new.data.toList.length = 128 := g
  show (new.data.toList.take c ++ old.data.toList.drop c).toArray.size = 128
  rw [List.size_toArray, List.length_append, List.length_take, List.length_drop, h', g']
  omega
theorem tear_cells (old new : ByteArray) (c : Nat) : pgV (tear old new c) = (pgV new).take c ++ (pgV old).drop c := by
  simp [pgV, tear, List.map_take, List.map_drop]
def failL (cuts : List Int) : Nat → List Wr → Int × List ByteArray → Int × List ByteArray
  | _, [], r => r
  | k, x :: F, r => failL cuts (k + 1) F (if 0 < cutN cuts k then r.1 + 1 else r.1, r.2.set x.n (tear (pg r.2 x.n) x.b (cutN cuts k)))
def failP (P : Pl) (cuts : List Int) : Int × Pl :=
  let r := failL cuts 0 P.float (0, P.last)
  (r.1, ⟨r.2, r.2, [], -1, false⟩)
theorem pg_mem {L : List ByteArray} {i : Nat} (h : i < L.length) : pg L i ∈ L := by simp [pg, List.getD, List.getElem?_eq_getElem h]
theorem pg_get {L : List ByteArray} {i : Nat} (h : i < L.length) : L[i]? = some (pg L i) := by simp [pg, List.getD, List.getElem?_eq_getElem h]
theorem failL_ok (cuts : List Int) : ∀ (F : List Wr) (k : Nat) (r : Int × List ByteArray), (∀ x ∈ r.2, x.size = 128) → (∀ x ∈ F, x.n < r.2.length ∧ x.b.size = 128) → (∀ x ∈ (failL cuts k F r).2, x.size = 128) ∧ (failL cuts k F r).2.length = r.2.length
  | [], _, r, h, _ => ⟨h, rfl⟩
  | x :: F, k, r, h, g => by
    have hx := g x (by simp)
    have := failL_ok cuts F (k + 1) (if 0 < cutN cuts k then r.1 + 1 else r.1, r.2.set x.n (tear (pg r.2 x.n) x.b (cutN cuts k))) (fun y hy => by
      rcases List.mem_or_eq_of_mem_set hy with hy | rfl
      · exact h y hy
      · exact tear_size (h _ (pg_mem hx.1)) hx.2 (cutN_le _ _)) (fun y hy => by simpa using g y (by simp [hy]))
    exact ⟨this.1, by rw [failL, this.2, List.length_set]⟩
theorem failL_drop (cuts : List Int) (F : List Wr) (r : Int × List ByteArray) (k : Nat) (x : Wr) (h : F[k]? = some x) :
    failL cuts k (F.drop k) r = failL cuts (k + 1) (F.drop (k + 1)) (if 0 < cutN cuts k then r.1 + 1 else r.1, r.2.set x.n (tear (pg r.2 x.n) x.b (cutN cuts k))) := by
  obtain ⟨hk, e⟩ := List.getElem?_eq_some_iff.1 h
  rw [List.drop_eq_getElem_cons hk, e, failL]
theorem failP_ok {P : Pl} (h : P.ok) (cuts : List Int) : (failP P cuts).2.ok := by
  have := failL_ok cuts P.float 0 (0, P.last) h.last (fun x hx => by rw [h.len]; exact h.float x hx)
  have hl : (failL cuts 0 P.float (0, P.last)).2.length = P.now.length := this.2.trans h.len
  exact ⟨rfl, Nat.lt_of_lt_of_eq h.pos hl.symm, Nat.le_trans (Nat.le_of_eq hl) h.top, this.1, this.1, by simp [failP], by simp [failP], (⟨by decide, by decide⟩ : inF (-1))⟩

/-- A page that begins with bytes. -/
def fillB (b : ByteArray) : ByteArray := if 128 < b.size then b.extract 0 128 else b ++ zerosB (128 - b.size)
theorem fillB_size (b : ByteArray) : (fillB b).size = 128 := by
  unfold fillB
  split
  · rw [ByteArray.size_extract]; omega
  · rw [ByteArray.size_append, zerosB_size]; omega
end Go.Proofs.YtbkkhafckkndfaaGreat

namespace Go.Proofs.YtbkkhafckkndfaaGreat
open Go Go.RowKit

/-- v in n bytes. -/
def digs (v : Nat) : Nat → List UInt8
  | 0 => []
  | n + 1 => digs (v / 256) n ++ [UInt8.ofNat v]
/-- The number of bytes. -/
def valL (l : List UInt8) : Nat := l.foldl (fun r b => r * 256 + b.toNat) 0
def bigB (v n : Nat) : ByteArray := ⟨(digs v n).toArray⟩
theorem digs_len (n : Nat) : ∀ v, (digs v n).length = n := by
  induction n with
  | zero => intro v; rfl
  | succ n ih => intro v; simp [digs, ih]
theorem bigB_size (v n : Nat) : (bigB v n).size = n := by
  show (digs v n).toArray.size = n
  rw [List.size_toArray, digs_len]
theorem valL_snoc (l : List UInt8) (b : UInt8) : valL (l ++ [b]) = valL l * 256 + b.toNat := by simp [valL, List.foldl_append]
theorem val_digs (n : Nat) : ∀ v, v < 256 ^ n → valL (digs v n) = v := by
  induction n with
  | zero => intro v h; simp at h; subst h; rfl
  | succ n ih =>
    intro v h
    rw [digs, valL_snoc, ih (v / 256) (by rw [Nat.pow_succ] at h; omega)]
    simp
    omega
theorem digs_inj {n x y : Nat} (hx : x < 256 ^ n) (hy : y < 256 ^ n) (h : digs x n = digs y n) : x = y := by
  rw [← val_digs n x hx, ← val_digs n y hy, h]
theorem valL_lt (n : Nat) : ∀ l : List UInt8, l.length = n → valL l < 256 ^ n := by
  induction n with
  | zero => intro l h; rw [List.eq_nil_of_length_eq_zero h]; decide
  | succ n ih =>
    intro l h
    rcases List.eq_nil_or_concat l with rfl | ⟨l', b, rfl⟩
    · simp at h
    · rw [List.concat_eq_append, valL_snoc, Nat.pow_succ]
      have := ih l' (by simpa using h)
      have := b.toNat_lt
      omega
theorem digs_val (n : Nat) : ∀ l : List UInt8, l.length = n → digs (valL l) n = l := by
  induction n with
  | zero => intro l h; rw [List.eq_nil_of_length_eq_zero h]; rfl
  | succ n ih =>
    intro l h
    rcases List.eq_nil_or_concat l with rfl | ⟨l', b, rfl⟩
    · simp at h
    · rw [List.concat_eq_append, digs, valL_snoc]
      have hb := b.toNat_lt
      rw [show (valL l' * 256 + b.toNat) / 256 = valL l' by omega, ih l' (by simpa using h)]
      congr 2
      apply UInt8.toNat_inj.1
      simp
/-- What a number of bytes is as an int64. -/
def numR (s : ByteArray) : Int := wrap64 (valL s.data.toList)
theorem numR_in (s : ByteArray) : inF (numR s) := by unfold numR wrap64 inF; omega

/-! ### Crowns -/
structure Cr where
  g : Int
  r : Int
  p : Int
def noC : Cr := ⟨0, 0, 0⟩
def okC (c : Cr) : Bool := decide (1 ≤ c.g ∧ c.g ≤ 4611686018427387904 ∧ 8 ≤ c.p ∧ c.p ≤ 200 ∧ 2 ≤ c.r ∧ c.r < c.p)
theorem okC_iff (c : Cr) : okC c = true ↔ 1 ≤ c.g ∧ c.g ≤ 4611686018427387904 ∧ 8 ≤ c.p ∧ c.p ≤ 200 ∧ 2 ≤ c.r ∧ c.r < c.p := by simp [okC]
theorem okC_no (c : Cr) : okC c = false ↔ ¬ (1 ≤ c.g ∧ c.g ≤ 4611686018427387904 ∧ 8 ≤ c.p ∧ c.p ≤ 200 ∧ 2 ≤ c.r ∧ c.r < c.p) := by
  rw [← okC_iff]; simp
def putL (c : Cr) : List UInt8 := digs c.g.toNat 8 ++ digs c.r.toNat 2 ++ digs c.p.toNat 2 ++ List.replicate 108 0 ++ digs c.g.toNat 8
def putB (c : Cr) : ByteArray := ⟨(putL c).toArray⟩
def putV (c : Cr) : ByteArray := if okC c then putB c else ByteArray.empty
theorem putL_len (c : Cr) : (putL c).length = 128 := by simp [putL, digs_len]
theorem putB_size (c : Cr) : (putB c).size = 128 := by
  show (putL c).toArray.size = 128
  rw [List.size_toArray, putL_len]
def rawL (l : List UInt8) : Cr := ⟨wrap64 (valL (l.take 8)), wrap64 (valL ((l.drop 8).take 2)), wrap64 (valL ((l.drop 10).take 2))⟩
theorem take_gen (c : Cr) : (putL c).take 8 = digs c.g.toNat 8 := by
  unfold putL
  rw [List.append_assoc, List.append_assoc, List.append_assoc, List.take_append_of_le_length (by rw [digs_len]; omega), List.take_of_length_le (by rw [digs_len]; omega)]
theorem drop_gen (c : Cr) : (putL c).drop 120 = digs c.g.toNat 8 := by
  unfold putL
  rw [List.drop_append_of_le_length (by simp [digs_len]), List.drop_of_length_le (by simp [digs_len]), List.nil_append]
theorem raw_put {c : Cr} (h : okC c = true) : rawL (putL c) = c := by
  have h := (okC_iff c).1 h
  obtain ⟨g, r, p⟩ := c
  dsimp only at h
  have e1 : (putL ⟨g, r, p⟩).take 8 = digs g.toNat 8 := take_gen _
  have e2 : ((putL ⟨g, r, p⟩).drop 8).take 2 = digs r.toNat 2 := by
    unfold putL
    rw [List.append_assoc, List.append_assoc, List.append_assoc, List.drop_append, List.drop_of_length_le (by rw [digs_len]; omega), digs_len, Nat.sub_self, List.drop_zero, List.nil_append,
      List.take_append_of_le_length (by rw [digs_len]; omega), List.take_of_length_le (by rw [digs_len]; omega)]
  have e3 : ((putL ⟨g, r, p⟩).drop 10).take 2 = digs p.toNat 2 := by
    unfold putL
    rw [List.append_assoc, List.append_assoc, List.drop_append, List.drop_of_length_le (by simp [digs_len])]
    simp only [List.length_append, digs_len, List.nil_append]
    rw [List.drop_zero, List.take_append_of_le_length (by rw [digs_len]; omega), List.take_of_length_le (by rw [digs_len]; omega)]
  unfold rawL
  rw [e1, e2, e3, val_digs 8 _ (by omega), val_digs 2 _ (by omega), val_digs 2 _ (by omega)]
  unfold wrap64
  simp only [Cr.mk.injEq]
  omega
/-- What Get answers. -/
def isC (l : List UInt8) : Bool := okC (rawL l) && putL (rawL l) == l
def getL (l : List UInt8) : Cr := if isC l then rawL l else noC
theorem isC_iff (l : List UInt8) : isC l = true ↔ ∃ c, okC c = true ∧ putL c = l := by
  unfold isC
  constructor
  · intro h
    simp at h
    exact ⟨_, h.1, h.2⟩
  · rintro ⟨c, h, rfl⟩
    rw [raw_put h, h]
    simp
theorem isC_put {c : Cr} (h : okC c = true) : isC (putL c) = true := (isC_iff _).2 ⟨c, h, rfl⟩
theorem get_put {c : Cr} (h : okC c = true) : getL (putL c) = c := by unfold getL; rw [if_pos (isC_put h), raw_put h]
theorem get_is {l : List UInt8} (h : isC l = true) : okC (getL l) = true ∧ putL (getL l) = l := by
  obtain ⟨c, h1, rfl⟩ := (isC_iff l).1 h
  rw [get_put h1]
  exact ⟨h1, rfl⟩
theorem get_no {l : List UInt8} (h : isC l = false) : getL l = noC := by unfold getL; rw [if_neg (by rw [h]; decide)]
theorem isC_len {l : List UInt8} (h : isC l = true) : l.length = 128 := by
  obtain ⟨c, _, rfl⟩ := (isC_iff l).1 h
  exact putL_len c
theorem isC_ends {l : List UInt8} (h : isC l = true) : l.take 8 = l.drop 120 := by
  obtain ⟨c, _, rfl⟩ := (isC_iff l).1 h
  rw [take_gen, drop_gen]
theorem get_gen (l : List UInt8) : 0 ≤ (getL l).g ∧ (isC l = true → 1 ≤ (getL l).g) ∧ (isC l = false → (getL l).g = 0) := by
  cases h : isC l with
  | false => rw [get_no h]; simp [noC]
  | true =>
    have := (okC_iff _).1 (get_is h).1
    simp
    omega
/-- What Pick answers. -/
def pickC (a b : List UInt8) : Cr := if (getL a).g < (getL b).g then getL b else getL a
def pickI (a b : List UInt8) : Int := if (getL a).g < (getL b).g then 1 else 0
def pickO (a b : List UInt8) : Bool := isC a || isC b
theorem put_inj {a b : Cr} (ha : okC a = true) (hb : okC b = true) (h : putL a = putL b) : a = b := by rw [← raw_put ha, ← raw_put hb, h]
theorem gen_inj {a b : Cr} (ha : okC a = true) (hb : okC b = true) (h : (putL a).take 8 = (putL b).take 8) : a.g = b.g := by
  rw [take_gen, take_gen] at h
  have ha := (okC_iff a).1 ha
  have hb := (okC_iff b).1 hb
  have := digs_inj (by omega) (by omega) h
  omega
/-- Of a Put of which the first bytes came over a Put of another number: it is the one, or the other, or none. -/
theorem tears {a b : Cr} (ha : okC a = true) (hb : okC b = true) (hg : a.g ≠ b.g) (n : Nat) (h : isC ((putL b).take n ++ (putL a).drop n) = true) :
    getL ((putL b).take n ++ (putL a).drop n) = a ∨ getL ((putL b).take n ++ (putL a).drop n) = b := by
  obtain ⟨Z, hZ⟩ : ∃ Z, Z = (putL b).take n ++ (putL a).drop n := ⟨_, rfl⟩
  rw [← hZ] at h ⊢
  have he := isC_ends h
  have ea := isC_ends (isC_put ha)
  have eb := isC_ends (isC_put hb)
  have la := putL_len a
  have lb := putL_len b
  by_cases hn : n ≤ 120
  · have d : Z.drop 120 = (putL a).drop 120 := by
      rw [hZ, List.drop_append, List.length_take, List.drop_of_length_le (by rw [List.length_take]; omega), List.nil_append, List.drop_drop]
      congr 1
      omega
    by_cases h8 : 8 ≤ n
    · exfalso
      apply hg
      apply gen_inj ha hb
      rw [ea, ← d, ← he, hZ, List.take_append_of_le_length (by rw [List.length_take]; omega), List.take_take, Nat.min_eq_left h8]
    · left
      have q : Z = putL a := by
        rw [← List.take_append_drop 8 Z, ← List.take_append_drop 8 (putL a), he, d, ← ea]
        congr 1
        rw [hZ, List.drop_append, List.length_take, List.drop_of_length_le (by rw [List.length_take]; omega), List.nil_append, List.drop_drop]
        congr 1
        omega
      rw [q, get_put ha]
  · right
    have t8 : Z.take 8 = (putL b).take 8 := by rw [hZ, List.take_append_of_le_length (by rw [List.length_take]; omega), List.take_take, Nat.min_eq_left (by omega)]
    have q : Z = putL b := by
      rw [← List.take_append_drop 120 Z, ← List.take_append_drop 120 (putL b), ← he, t8, eb]
      congr 1
      rw [hZ, List.take_append_of_le_length (by rw [List.length_take]; omega), List.take_take, Nat.min_eq_left (by omega)]
    rw [q, get_put hb]
theorem set_ne {l : List UInt8} {k : Nat} (h : k < l.length) {x : UInt8} (hx : x ≠ l[k]) : l.take k ++ [x] ++ l.drop (k + 1) ≠ l := by
  intro e
  have := congrArg (fun m => m[k]?) e
  simp [h, Nat.min_eq_left (Nat.le_of_lt h)] at this
  exact hx this
/-- With one byte of one of its two numbers turned it is none. -/
theorem turned {c : Cr} (hc : okC c = true) {k : Nat} (hk : k < 128) (hk2 : k < 8 ∨ 120 ≤ k) {x : UInt8} (hx : x ≠ (putL c)[k]'(by rw [putL_len]; exact hk)) :
    isC ((putL c).take k ++ [x] ++ (putL c).drop (k + 1)) = false := by
  have hl := putL_len c
  obtain ⟨Z, hZ⟩ : ∃ Z, Z = (putL c).take k ++ [x] ++ (putL c).drop (k + 1) := ⟨_, rfl⟩
  have ec := isC_ends (isC_put hc)
  have hne : Z ≠ putL c := by rw [hZ]; exact set_ne (by omega) hx
  rw [← hZ]
  cases h : isC Z with
  | false => rfl
  | true =>
    exfalso
    have he := isC_ends h
    apply hne
    rcases hk2 with h8 | h8
    · have d : Z.drop 8 = (putL c).drop 8 := by
        rw [hZ, List.drop_append, List.drop_of_length_le (by simp; omega), List.nil_append, List.length_append, List.length_take, List.length_singleton, Nat.min_eq_left (by omega), List.drop_drop]
        congr 1
        omega
      have d2 : Z.drop 120 = (putL c).drop 120 := by
        have := congrArg (List.drop 112) d
        rwa [List.drop_drop, List.drop_drop] at this
      rw [← List.take_append_drop 8 Z, ← List.take_append_drop 8 (putL c), d, he, d2, ec]
    · have t : Z.take 120 = (putL c).take 120 := by
        rw [hZ, List.append_assoc, List.take_append_of_le_length (by rw [List.length_take]; omega), List.take_take, Nat.min_eq_left h8]
      have t8 : Z.take 8 = (putL c).take 8 := by
        have := congrArg (List.take 8) t
        rwa [List.take_take, List.take_take] at this
      rw [← List.take_append_drop 120 Z, ← List.take_append_drop 120 (putL c), t, ← he, t8, ec]
end Go.Proofs.YtbkkhafckkndfaaGreat

namespace Go.Proofs.YtbkkhafckkndfaaGreat
open Go Go.RowKit

def keyB (k : Int) : Bool := decide (0 ≤ k ∧ k ≤ 2147483647)
def pageB (n : Int) : Bool := decide (2 ≤ n ∧ n < 200)
theorem keyB_iff (k : Int) : keyB k = true ↔ 0 ≤ k ∧ k ≤ 2147483647 := by simp [keyB]
theorem pageB_iff (k : Int) : pageB k = true ↔ 2 ≤ k ∧ k < 200 := by simp [pageB]
/-- Zeros up to a page. -/
def padL (l : List UInt8) : List UInt8 := l ++ List.replicate (128 - l.length) 0
theorem padL_len {l : List UInt8} (h : l.length ≤ 128) : (padL l).length = 128 := by simp [padL]; omega
theorem padL_take {l : List UInt8} (k : Nat) (h : k ≤ l.length) : (padL l).take k = l.take k := List.take_append_of_le_length h
theorem val_one (b : UInt8) : valL [b] = b.toNat := by simp [valL]
theorem wrap_small {n : Nat} (h : n < 9223372036854775808) : wrap64 (n : Int) = n := by unfold wrap64; omega

/-! ### Pieces -/
def chainOk (next : Int) (t : List UInt8) : Bool := (next == 0 || pageB next) && decide (1 ≤ t.length ∧ t.length ≤ 120)
theorem chainOk_iff (next : Int) (t : List UInt8) : chainOk next t = true ↔ (next = 0 ∨ 2 ≤ next ∧ next < 200) ∧ 1 ≤ t.length ∧ t.length ≤ 120 := by
  simp [chainOk, pageB]
def chainH (next : Int) (t : List UInt8) : List UInt8 := 67 :: (digs next.toNat 2 ++ digs t.length 1 ++ t)
def chainL (next : Int) (t : List UInt8) : List UInt8 := padL (chainH next t)
theorem chainH_len (next : Int) (t : List UInt8) : (chainH next t).length = 4 + t.length := by simp [chainH, digs_len]; omega
theorem chainL_len {next : Int} {t : List UInt8} (h : t.length ≤ 124) : (chainL next t).length = 128 := padL_len (by rw [chainH_len]; omega)
/-- What is read of a page as a piece. -/
def linkN (l : List UInt8) : Int := wrap64 (valL ((l.drop 1).take 2))
def linkT (l : List UInt8) : List UInt8 := (l.drop 4).take (valL ((l.drop 3).take 1))
def isLink (l : List UInt8) : Bool := decide (l.length = 128) && (l.take 1 == [67]) && decide (valL ((l.drop 3).take 1) ≤ 120) && (chainOk (linkN l) (linkT l) && chainL (linkN l) (linkT l) == l)
theorem drop1_chain (next : Int) (t : List UInt8) : (chainL next t).drop 1 = digs next.toNat 2 ++ (digs t.length 1 ++ (t ++ List.replicate (128 - (chainH next t).length) 0)) := by
  simp only [chainL, padL, chainH, List.cons_append, List.drop_succ_cons, List.drop_zero, List.append_assoc]
theorem link_chain {next : Int} {t : List UInt8} (h : chainOk next t = true) : linkN (chainL next t) = next ∧ linkT (chainL next t) = t ∧ valL (((chainL next t).drop 3).take 1) = t.length := by
  have hh := (chainOk_iff next t).1 h
  have e1 : ((chainL next t).drop 1).take 2 = digs next.toNat 2 := by
    rw [drop1_chain, List.take_append_of_le_length (by rw [digs_len]; omega), List.take_of_length_le (by rw [digs_len]; omega)]
  have e3 : (chainL next t).drop 3 = digs t.length 1 ++ (t ++ List.replicate (128 - (chainH next t).length) 0) := by
    have : (chainL next t).drop 3 = ((chainL next t).drop 1).drop 2 := by rw [List.drop_drop]
    rw [this, drop1_chain, List.drop_append, List.drop_of_length_le (by rw [digs_len]; omega), digs_len]
    simp
  have e4 : (chainL next t).drop 4 = t ++ List.replicate (128 - (chainH next t).length) 0 := by
    have : (chainL next t).drop 4 = ((chainL next t).drop 3).drop 1 := by rw [List.drop_drop]
    rw [this, e3, List.drop_append, List.drop_of_length_le (by rw [digs_len]; omega), digs_len]
    simp
  have e5 : valL (((chainL next t).drop 3).take 1) = t.length := by
    rw [e3, List.take_append_of_le_length (by rw [digs_len]; omega), List.take_of_length_le (by rw [digs_len]; omega), val_digs 1 _ (by omega)]
  refine ⟨?_, ?_, e5⟩
  · unfold linkN
    rw [e1, val_digs 2 _ (by omega), wrap_small (by omega)]
    omega
  · unfold linkT
    rw [e5, e4, List.take_append_of_le_length (by omega), List.take_of_length_le (by omega)]
theorem isLink_iff (l : List UInt8) : isLink l = true ↔ ∃ next t, chainOk next t = true ∧ chainL next t = l := by
  constructor
  · intro h
    simp only [isLink, Bool.and_eq_true, beq_iff_eq] at h
    exact ⟨_, _, h.2.1, h.2.2⟩
  · rintro ⟨next, t, h, rfl⟩
    obtain ⟨e1, e2, e3⟩ := link_chain h
    have hh := (chainOk_iff next t).1 h
    have hl : (chainL next t).length = 128 := chainL_len (by omega)
    have ht : (chainL next t).take 1 = [67] := by simp only [chainL, padL, chainH, List.cons_append, List.take_succ_cons, List.take_zero]
    unfold isLink
    rw [e1, e2, e3, hl, ht, h]
    have : t.length ≤ 120 := hh.2.2
    simp [this]
theorem link_is {l : List UInt8} (h : isLink l = true) : chainOk (linkN l) (linkT l) = true ∧ chainL (linkN l) (linkT l) = l := by
  obtain ⟨next, t, h1, rfl⟩ := (isLink_iff l).1 h
  obtain ⟨e1, e2, _⟩ := link_chain h1
  rw [e1, e2]
  exact ⟨h1, rfl⟩

theorem isLink_128 {l : List UInt8} (h : isLink l = true) : l.length = 128 := by
  obtain ⟨next, t, h1, rfl⟩ := (isLink_iff l).1 h
  have hh := (chainOk_iff next t).1 h1
  exact chainL_len (by omega)

/-! ### Indexes -/
structure Sl where
  key : Int
  page : Int
def riseB : List Int → Bool
  | [] => true
  | [_] => true
  | a :: b :: r => decide (a < b) && riseB (b :: r)
/-- The first k slots may be. -/
def slOk (S : List Sl) (i : Nat) : Bool := keyB (S.getD i ⟨0, 0⟩).key && pageB (S.getD i ⟨0, 0⟩).page && (decide (i = 0) || decide ((S.getD (i - 1) ⟨0, 0⟩).key < (S.getD i ⟨0, 0⟩).key))
def idxOk (S : List Sl) : Bool := decide (S.length ≤ 21) && (List.range S.length).all (slOk S)
def slB (s : Sl) : List UInt8 := digs s.key.toNat 4 ++ digs s.page.toNat 2
theorem slB_len (s : Sl) : (slB s).length = 6 := by simp [slB, digs_len]
def idxH (S : List Sl) (n : Nat) : List UInt8 := 73 :: (digs S.length 1 ++ (S.take n).flatMap slB)
theorem flat_len (S : List Sl) : (S.flatMap slB).length = 6 * S.length := by
  induction S with
  | nil => rfl
  | cons s S ih => simp [slB_len, ih]; omega
theorem idxH_len (S : List Sl) (n : Nat) (h : n ≤ S.length) : (idxH S n).length = 2 + 6 * n := by
  rw [idxH, List.length_cons, List.length_append, digs_len, flat_len, List.length_take, Nat.min_eq_left h]
  omega
theorem idxH_up (S : List Sl) (n : Nat) (h : n < S.length) : idxH S (n + 1) = idxH S n ++ digs (S.getD n ⟨0, 0⟩).key.toNat 4 ++ digs (S.getD n ⟨0, 0⟩).page.toNat 2 := by
  have e : S.getD n ⟨0, 0⟩ = S[n] := by simp [List.getD, h]
  rw [e, idxH, List.take_succ_eq_append_getElem h, List.flatMap_append]
  simp [idxH, slB]
def idxL (S : List Sl) : List UInt8 := padL (idxH S S.length)
theorem idxL_len {S : List Sl} (h : S.length ≤ 21) : (idxL S).length = 128 := padL_len (by rw [idxH_len S _ (Nat.le_refl _)]; omega)
theorem idx_no {S : List Sl} {k : Nat} (hk : k < S.length) (h : slOk S k = false) : idxOk S = false := by
  cases e : idxOk S with
  | false => rfl
  | true =>
    simp only [idxOk, Bool.and_eq_true, List.all_eq_true] at e
    have := e.2 k (List.mem_range.2 hk)
    rw [h] at this
    cases this
theorem idx_yes {S : List Sl} (hn : S.length ≤ 21) (h : ∀ k, k < S.length → slOk S k = true) : idxOk S = true := by
  simp only [idxOk, Bool.and_eq_true, List.all_eq_true, decide_eq_true_eq]
  exact ⟨hn, fun k hk => h k (List.mem_range.1 hk)⟩
theorem idx_long {S : List Sl} (hn : 21 < S.length) : idxOk S = false := by
  unfold idxOk
  have : ¬ S.length ≤ 21 := by omega
  simp [this]
theorem slOk_zero (S : List Sl) : slOk S 0 = (keyB (S.getD 0 ⟨0, 0⟩).key && pageB (S.getD 0 ⟨0, 0⟩).page) := by simp [slOk]
theorem slOk_succ (S : List Sl) (k : Nat) : slOk S (k + 1) = (keyB (S.getD (k + 1) ⟨0, 0⟩).key && pageB (S.getD (k + 1) ⟨0, 0⟩).page && decide ((S.getD k ⟨0, 0⟩).key < (S.getD (k + 1) ⟨0, 0⟩).key)) := by simp [slOk]
end Go.Proofs.YtbkkhafckkndfaaGreat

namespace Go.Proofs.YtbkkhafckkndfaaGreat
open Go.RowKit

theorem grown_heap {w w' : World} (h : Grown w w') {i : Nat} (hi : i < w.heap.size) : w'.heap[i]? = w.heap[i]? := by
  obtain ⟨⟨_, _, h3⟩, _, _⟩ := h
  have := h3 i hi
  split at this
  · rename_i c t fr c' t' fr' e1 e2
    obtain ⟨rfl, rfl, hs, hj⟩ := this
    rw [e1, e2]
    have : c' = c := Array.ext_getElem? (fun j => hj j (by simp))
    rw [this]
  · rename_i e1 e2
    rcases this with f | ⟨rfl, rfl⟩
    · exact f.elim
    · rw [e1, e2]
  · exact this

theorem cell_block {w : World} {p : Addr} {v : Value} (h : w.cell? p = some v) : p.block < w.heap.size := by
  unfold World.cell? at h
  by_cases e : p.block < w.heap.size
  · exact e
  · rw [Array.getElem?_eq_none (by omega)] at h
    cases h

theorem cell_of_heap {w w' : World} {p : Addr} (h : w'.heap[p.block]? = w.heap[p.block]?) : w'.cell? p = w.cell? p := by
  unfold World.cell?
  rw [h]

/-- w' is w with more blocks, and answers drawn. -/
structure Grew (w w' : World) : Prop where
  grown : Grown w w'
  tape : w'.tape = w.tape

theorem Grew.refl (w : World) : Grew w w := ⟨Grown.refl w, rfl⟩
theorem Grew.trans {a b c : World} (h : Grew a b) (g : Grew b c) : Grew a c :=
  ⟨⟨World.keptBut_trans h.1.1 g.1.1, fun x => (g.1.2.1 x).trans (h.1.2.1 x), Nat.le_trans h.1.2.2 g.1.2.2⟩, g.tape.trans h.tape⟩
theorem Grew.alloc {w w' : World} (h : Grew w w') (c : Array Value) (t : TypeId) : Grew w (w'.alloc (.cells c t)) := ⟨h.grown.alloc c t, h.tape⟩
theorem Grew.setCell {w w' : World} (h : Grew w w') {a : Addr} (ha : w.heap.size ≤ a.block) (v : Value) : Grew w (w'.setCell a v) := ⟨h.grown.setCell ha v, h.tape⟩
theorem drewN_tape (w : World) (n : Nat) : (w.drewN n).tape = w.tape := rfl
theorem Grew.drewN {w w' : World} (h : Grew w w') (n : Nat) : Grew w (w'.drewN n) := ⟨h.grown, h.tape⟩
theorem Grew.drew {w w' : World} (h : Grew w w') : Grew w w'.drew := ⟨h.grown, h.tape⟩
theorem Grew.size {w w' : World} (h : Grew w w') : w.heap.size ≤ w'.heap.size := h.grown.2.2
theorem Grew.heap {w w' : World} (h : Grew w w') {i : Nat} (hi : i < w.heap.size) : w'.heap[i]? = w.heap[i]? := grown_heap h.grown hi
theorem Grew.cell {w w' : World} (h : Grew w w') {p : Addr} {v : Value} (hc : w.cell? p = some v) : w'.cell? p = some v := by
  rw [cell_of_heap (h.heap (cell_block hc)), hc]
theorem Grew.frozen {w w' : World} (h : Grew w w') {p : Addr} (hc : w.frozen? p = false) : w'.frozen? p = false := (h.grown.2.1 p).trans hc
theorem Grew.below {w w' : World} (h : Grew w w') : Below w.heap.size w w' :=
  ⟨h.grown.1.1, h.tape, h.grown.1.2.1, h.size, fun _ hk => h.heap hk⟩

/-- A cell of a block that was not there when w₀ was is not frozen. -/
theorem Grew.free {w₀ w : World} (h : Grew w₀ w) {p : Addr} (hp : w₀.heap.size ≤ p.block) : w.frozen? p = false := by
  rw [h.grown.2.1 p]
  unfold World.frozen?
  rw [Array.getElem?_eq_none hp]

/-- W is w1 with new blocks, and block n may have been written. -/
structure Past (n : Nat) (w1 W : World) : Prop where
  grew : ∀ w₀ : World, w₀.heap.size ≤ n → Grew w₀ w1 → Grew w₀ W
  block : ∀ i, i < w1.heap.size → i ≠ n → W.heap[i]? = w1.heap[i]?
  size : w1.heap.size ≤ W.heap.size

theorem Past.refl (n : Nat) (w : World) : Past n w w := ⟨fun _ _ h => h, fun _ _ _ => rfl, Nat.le_refl _⟩
theorem Past.trans {n : Nat} {a b c : World} (h : Past n a b) (g : Past n b c) : Past n a c :=
  ⟨fun w₀ hw G => g.grew w₀ hw (h.grew w₀ hw G), fun i hi hn => (g.block i (Nat.lt_of_lt_of_le hi h.size) hn).trans (h.block i hi hn), Nat.le_trans h.size g.size⟩
theorem Grew.past {n : Nat} {w W : World} (h : Grew w W) : Past n w W :=
  ⟨fun _ _ G => G.trans h, fun _ hi _ => h.heap hi, h.size⟩
theorem past_setCell (n : Nat) (w : World) (o : Nat) (s : Option Nat) (v : Value) : Past n w (w.setCell ⟨n, o, s⟩ v) := by
  refine ⟨fun w₀ hw G => G.setCell hw v, fun i _ hn => ?_, ?_⟩
  · simp only [World.setCell, Array.getElem?_modify]
    rw [if_neg (by omega)]
  · simp [World.setCell]
theorem Past.cell {n : Nat} {w W : World} (h : Past n w W) {p : Addr} {v : Value} (hn : p.block ≠ n) (hc : w.cell? p = some v) : W.cell? p = some v := by
  rw [cell_of_heap (h.block _ (cell_block hc) hn), hc]

/-- A slice of int64s at a, its elements l. -/
def Row (w : World) (a : Option Addr) (l : List Int) : Prop :=
  l.length ≤ 1000 ∧ (∀ x ∈ l, inF x) ∧ (l = [] ∨ ∃ b off, a = some ⟨b, off, none⟩ ∧ ∀ i, i < l.length → w.cell? ⟨b, off + i, none⟩ = some (.int .i64 (l.getD i 0)))

theorem Row.grew {w w' : World} {a : Option Addr} {l : List Int} (h : Row w a l) (g : Grew w w') : Row w' a l := by
  obtain ⟨h1, h2, h3⟩ := h
  refine ⟨h1, h2, ?_⟩
  rcases h3 with h3 | ⟨b, off, h3, h4⟩
  · exact .inl h3
  · exact .inr ⟨b, off, h3, fun i hi => g.cell (h4 i hi)⟩

theorem ret_bool {a b : Bool} (h : a = b) : Ending.returned (.bool a) = .returned (.bool b) := by rw [h]

end Go.Proofs.YtbkkhafckkndfaaGreat

namespace Go.Proofs.YtbkkhafckkndfaaGreat
open Go Go.RowKit

/-- Cells that a slice reads, one behind the other. -/
def Reads (w : World) (a : Option Addr) (xs : List Value) : Prop :=
  xs = [] ∨ ∃ b off, a = some ⟨b, off, none⟩ ∧ ∀ j u, xs[j]? = some u → w.cell? ⟨b, off + j, none⟩ = some u
theorem Reads.below {w w' : World} {a : Option Addr} {xs : List Value} (h : Reads w a xs) (g : Below w.heap.size w w') : Reads w' a xs := by
  rcases h with h | ⟨b, off, e, h⟩
  · exact .inl h
  · exact .inr ⟨b, off, e, fun j u hj => (g.cell (cell_block (h j u hj))).trans (h j u hj)⟩

/-- What is owned is read. -/
theorem own_reads {w : World} {B n k : Nat} {E : TypeId} {v : Value} {xs : List Value} (h : w.ownsRow B E k v n xs) : ∃ a cap, v = .slice a n cap ∧ Reads w a xs := by
  rcases h.2 with ⟨rfl, h0⟩ | ⟨g, cap, cur, rfl, _⟩
  · refine ⟨none, 0, by rw [h0], .inl (List.eq_nil_of_length_eq_zero ?_)⟩
    rw [h.1, h0]; simp
  · refine ⟨_, cap, rfl, .inr ⟨g, 0, rfl, fun j u hj => ?_⟩⟩
    rw [Nat.zero_add, h.cellAt j (by rw [← h.1]; exact (List.getElem?_eq_some_iff.1 hj).1)]
    exact hj
/-- A slice that begins as one that is owned. -/
theorem own_prefix {w : World} {B n m k g cap : Nat} {E : TypeId} {xs ys : List Value} (h : w.ownsRow B E k (.slice (some ⟨g, 0, none⟩) (n + m) cap) (n + m) (xs ++ ys)) (hx : xs.length = n * k) : w.ownsRow B E k (.slice (some ⟨g, 0, none⟩) n cap) n xs := by
  refine ⟨hx, ?_⟩
  rcases h.2 with ⟨h', _⟩ | ⟨g', cap', cur, h', hb, hg, hnc, hcm, hcs, htake⟩
  · simp at h'
  · simp only [Value.slice.injEq, Option.some.injEq, Addr.mk.injEq, and_true, true_and] at h'
    obtain ⟨rfl, rfl⟩ := h'
    refine .inr ⟨g, cap, cur, rfl, hb, hg, by omega, hcm, hcs, ?_⟩
    have e : (cur.toList.take ((n + m) * k)).take (n * k) = xs := by rw [htake, ← hx]; exact List.take_left
    rw [List.take_take, Nat.min_eq_left (Nat.mul_le_mul_right k (by omega))] at e
    exact e

section
variable {P : Program} (w : World)
theorem run_app (base : Nat) (t ty e : TypeId) (i : TypeInfo) (z : Value) (size bytes : Nat) (ht : P.underlying t = some (.slice e)) (hi : P.info? e = some i) (hz : i.zero = some z)
    (hsize : i.size = size) (hby : i.bytes = bytes) (hzs : z.cells.size = size) (hsz : 0 < size)
    (v : Value) (n : Nat) (xs : List Value) (hown : w.ownsRow base e size v n xs)
    (a : Option Addr) (m c : Nat) (news : List Value) (hl : news.length = m * size) (hnews : Reads w a news) (h1 : ∀ u ∈ news, u.oneCell' = true)
    (h63 : n + m ≤ maxLen) (hbytes : (n + m) * bytes ≤ 140737488355328) (hbase : base ≤ w.heap.size) :
    ∃ v' w', (Builtin.append_ #[t, t] ty #[v, .slice a m c]).run P w = .ok v' w' ∧ w'.ownsRow base e size v' (n + m) (xs ++ news) ∧ w.grownBy w' v.ownBlock ∧ w'.ownsRow base e size v n xs ∧
      (v'.ownBlock = v.ownBlock ∨ v'.ownBlock = some w.heap.size) := by
  by_cases hm : m = 0
  · subst hm
    obtain rfl : news = [] := List.eq_nil_of_length_eq_zero (by rw [hl]; simp)
    refine ⟨v, w, ?_, by simpa using hown, ⟨rfl, rfl, rfl, Nat.le_refl _, fun _ _ _ => rfl⟩, hown, .inl rfl⟩
    rcases hown.2 with ⟨rfl, rfl⟩ | ⟨g, cap, cur, rfl, _, _, hnc, _⟩
    · cases a <;> simp [Builtin.append_, run_underlying ht, sizeOf, typeInfo, hi, Builtin.lenOf, Builtin.firstCells, loadCells, loadCellsFrom]
    · cases a <;> simp [Builtin.append_, run_underlying ht, sizeOf, typeInfo, hi, Builtin.lenOf, Builtin.firstCells, loadCells, loadCellsFrom, hnc, storeCells]
  · have hne : news ≠ [] := fun e => by
      rw [e] at hl
      have := Nat.mul_pos (by omega : 0 < m) hsz
      simp at hl
      omega
    obtain ⟨b, off, rfl, hc⟩ := hnews.resolve_left hne
    have hc' : ∀ j u, news[j]? = some u → w.cell? ((⟨b, off, none⟩ : Addr).add j) = some u := fun j u hj => by
      rw [Go.WideShapes.add_plain]; exact hc j u hj
    obtain ⟨v', w', hr, h2, h3, h4⟩ := run_append_own (P := P) w base t ty e i z size bytes ht hi hz hsize hby hzs hsz v n xs hown ⟨b, off, none⟩ m c news hl hc' h1 h63 hbytes hbase
    refine ⟨v', w', hr, h2, h3, ?_⟩
    rcases hown.2 with ⟨rfl, rfl⟩ | ⟨g, cap, cur, rfl, hbg, hg, hnc, hcm, hcs, htake⟩
    · obtain rfl : xs = [] := List.eq_nil_of_length_eq_zero (by rw [hown.1]; simp)
      refine ⟨World.ownsRow_nil _ _ _ _, ?_⟩
      have hr2 := run_append_nil (P := P) w t ty e i z ht hi hz ⟨b, off, none⟩ m c news (by rw [hsize]; exact hl) hc' (by omega) (by simp only [maxLen] at h63; omega) (by rw [hby]; have hb := hbytes; simp only [Nat.zero_add] at hb; omega)
      rw [hr] at hr2
      simp only [Result.ok.injEq] at hr2
      rw [hr2.1]
      exact .inr rfl
    · by_cases hroom : n + m ≤ cap
      · obtain ⟨w2, hr2, h5, h6⟩ := run_append_fits (P := P) w base t ty e i size ht hi hsize g n cap xs hown ⟨b, off, none⟩ m c news hl hc' h1 hroom
        rw [hr] at hr2
        simp only [Result.ok.injEq] at hr2
        obtain ⟨rfl, rfl⟩ := hr2
        exact ⟨own_prefix h5 hown.1, .inl rfl⟩
      · have hr2 := run_append_grow (P := P) w t ty e i z ht hi hz ⟨g, 0, none⟩ n cap xs (by rw [hsize]; exact hown.1) (hown.cells (g := g) rfl) ⟨b, off, none⟩ m c news (by rw [hsize]; exact hl) hc' (by omega) (by simp only [maxLen] at h63; omega) (by rw [hby]; exact growslice_fits (by omega) hbytes)
        rw [hr] at hr2
        simp only [Result.ok.injEq] at hr2
        rw [hr2.1, hr2.2]
        exact ⟨(show w.drew.ownsRow base e size (.slice (some ⟨g, 0, none⟩) n cap) n xs from hown).alloc _, .inr rfl⟩

theorem wp_app {o : Oper} {a : Act} {K : Act → World → Prop} {Q : Exit → Act → World → Prop} (s x : Operand) (t : TypeId)
    (ho : o.op = .call { callee := .builtin .append, args := #[s, x], argTypes := #[t, t] })
    (base : Nat) (e : TypeId) (i : TypeInfo) (z : Value) (size bytes : Nat) (ht : P.underlying t = some (.slice e)) (hi : P.info? e = some i) (hz : i.zero = some z)
    (hsize : i.size = size) (hby : i.bytes = bytes) (hzs : z.cells.size = size) (hsz : 0 < size)
    (v : Value) (n : Nat) (xs : List Value) (hs : a.eval s = v) (hown : w.ownsRow base e size v n xs)
    (ad : Option Addr) (m c : Nat) (news : List Value) (hx : a.eval x = .slice ad m c) (hl : news.length = m * size) (hnews : Reads w ad news) (h1 : ∀ u ∈ news, u.oneCell' = true)
    (h63 : n + m ≤ maxLen) (hbytes : (n + m) * bytes ≤ 140737488355328) (hbase : base ≤ w.heap.size)
    (h : ∀ v' w', w'.ownsRow base e size v' (n + m) (xs ++ news) → w.grownBy w' v.ownBlock → w'.ownsRow base e size v n xs → (v'.ownBlock = v.ownBlock ∨ v'.ownBlock = some w.heap.size) → K (a.put o.dst v') w') : o.wp P a w K Q := by
  obtain ⟨v', w', hr, h2, h3, h4, h5⟩ := run_app (P := P) w base t o.type e i z size bytes ht hi hz hsize hby hzs hsz v n xs hown ad m c news hl hnews h1 h63 hbytes hbase
  unfold Oper.wp execOp
  simp only [ho, resolve, invoke, builtin, Sem.run_bind, Sem.run_pure, Result.andThen_ok, List.map_toArray, List.map_cons, List.map_nil, hs, hx, hr]
  exact h v' w' h2 h3 h4 h5

theorem wpList_app {ops : Array Oper} {rest : List Oper} {o : Oper} {a : Act} {Q : Exit → Act → World → Prop} (hgd : o.guard = none) (s x : Operand) (t : TypeId)
    (ho : o.op = .call { callee := .builtin .append, args := #[s, x], argTypes := #[t, t] })
    (base : Nat) (e : TypeId) (i : TypeInfo) (z : Value) (size bytes : Nat) (ht : P.underlying t = some (.slice e)) (hi : P.info? e = some i) (hz : i.zero = some z)
    (hsize : i.size = size) (hby : i.bytes = bytes) (hzs : z.cells.size = size) (hsz : 0 < size)
    (v : Value) (n : Nat) (xs : List Value) (hs : a.eval s = v) (hown : w.ownsRow base e size v n xs)
    (ad : Option Addr) (m c : Nat) (news : List Value) (hx : a.eval x = .slice ad m c) (hl : news.length = m * size) (hnews : Reads w ad news) (h1 : ∀ u ∈ news, u.oneCell' = true)
    (h63 : n + m ≤ maxLen) (hbytes : (n + m) * bytes ≤ 140737488355328) (hbase : base ≤ w.heap.size)
    (h : ∀ v' w', w'.ownsRow base e size v' (n + m) (xs ++ news) → w.grownBy w' v.ownBlock → w'.ownsRow base e size v n xs → (v'.ownBlock = v.ownBlock ∨ v'.ownBlock = some w.heap.size) → wpList P ops Q rest (a.put o.dst v') w') : wpList P ops Q (o :: rest) a w :=
  wpList_plain hgd fun _ hK => wp_app w s x t ho base e i z size bytes ht hi hz hsize hby hzs hsz v n xs hs hown ad m c news hx hl hnews h1 h63 hbytes hbase fun v' w' h2 h3 h4 h5 => hK _ _ (h v' w' h2 h3 h4 h5)

/-- At a step of a region that draws its order. -/
theorem step_app {ops : Array Oper} {o : Oper} {a : Act} {K : Act → World → Prop} {Q : Exit → Act → World → Prop} {F : Prop} (hgd : o.guard = none) (s x : Operand) (t : TypeId)
    (ho : o.op = .call { callee := .builtin .append, args := #[s, x], argTypes := #[t, t] })
    (base : Nat) (e : TypeId) (i : TypeInfo) (z : Value) (size bytes : Nat) (ht : P.underlying t = some (.slice e)) (hi : P.info? e = some i) (hz : i.zero = some z)
    (hsize : i.size = size) (hby : i.bytes = bytes) (hzs : z.cells.size = size) (hsz : 0 < size)
    (v : Value) (n : Nat) (xs : List Value) (hs : a.eval s = v) (hown : w.ownsRow base e size v n xs)
    (ad : Option Addr) (m c : Nat) (news : List Value) (hx : a.eval x = .slice ad m c) (hl : news.length = m * size) (hnews : Reads w ad news) (h1 : ∀ u ∈ news, u.oneCell' = true)
    (h63 : n + m ≤ maxLen) (hbytes : (n + m) * bytes ≤ 140737488355328) (hbase : base ≤ w.heap.size)
    (h : ∀ v' w', w'.ownsRow base e size v' (n + m) (xs ++ news) → w.grownBy w' v.ownBlock → w'.ownsRow base e size v n xs → (v'.ownBlock = v.ownBlock ∨ v'.ownBlock = some w.heap.size) → K (a.put o.dst v') w') :
    if Region.wanted o (yielded ops a.tmps) = true then Oper.wp P o a w K Q else F := by
  have hw : Region.wanted o (yielded ops a.tmps) = true := by simp [Region.wanted, hgd]
  rw [if_pos hw]
  exact wp_app w s x t ho base e i z size bytes ht hi hz hsize hby hzs hsz v n xs hs hown ad m c news hx hl hnews h1 h63 hbytes hbase h
end
end Go.Proofs.YtbkkhafckkndfaaGreat

namespace Go.Proofs.YtbkkhafckkndfaaGreat
open Go Go.RowKit

theorem frozen_of_heap {w w' : World} {p : Addr} (h : w'.heap[p.block]? = w.heap[p.block]?) : w'.frozen? p = w.frozen? p := by
  unfold World.frozen?
  rw [h]

/-- W is w with new blocks, and of the old ones those of S may have been written. -/
structure But (S : Nat → Prop) (w W : World) : Prop where
  os : W.os = w.os
  tape : W.tape = w.tape
  output : W.output = w.output
  size : w.heap.size ≤ W.heap.size
  block : ∀ i, i < w.heap.size → ¬ S i → W.heap[i]? = w.heap[i]?
theorem But.refl (S : Nat → Prop) (w : World) : But S w w := ⟨rfl, rfl, rfl, Nat.le_refl _, fun _ _ _ => rfl⟩
theorem But.trans {S : Nat → Prop} {a b c : World} (h : But S a b) (g : But S b c) : But S a c :=
  ⟨g.os.trans h.os, g.tape.trans h.tape, g.output.trans h.output, Nat.le_trans h.size g.size, fun i hi hn => (g.block i (Nat.lt_of_lt_of_le hi h.size) hn).trans (h.block i hi hn)⟩
theorem But.more {S T : Nat → Prop} {a b : World} (h : But S a b) (hS : ∀ n, n < a.heap.size → S n → T n) : But T a b := ⟨h.os, h.tape, h.output, h.size, fun i hi hn => h.block i hi fun e => hn (hS i hi e)⟩
theorem Below.but {S : Nat → Prop} {w W : World} (h : Below w.heap.size w W) : But S w W := ⟨h.os, h.tape, h.output, h.size, fun i hi _ => h.block i hi⟩
theorem Grew.but {S : Nat → Prop} {w W : World} (h : Grew w W) : But S w W := Go.Proofs.YtbkkhafckkndfaaGreat.Below.but h.below
theorem But.below {S : Nat → Prop} {B : Nat} {w W : World} (h : But S w W) (hS : ∀ n, S n → B ≤ n) (hB : B ≤ w.heap.size) : Below B w W := ⟨h.os, h.tape, h.output, h.size, fun i hi => h.block i (by omega) fun e => by have := hS i e; omega⟩
theorem But.set {S : Nat → Prop} {w W : World} (h : But S w W) {b : Nat} (hb : S b) (o : Nat) (s : Option Nat) (v : Value) : But S w (W.setCell ⟨b, o, s⟩ v) :=
  h.trans ⟨rfl, rfl, rfl, by simp [World.setCell], fun i _ hn => Below.heap_setCell _ _ _ _ (fun e => hn (e ▸ hb))⟩
theorem But.alloc {S : Nat → Prop} {w W : World} (h : But S w W) (o : Obj) : But S w (W.alloc o) := h.trans ⟨rfl, rfl, rfl, by simp, fun i hi _ => Below.heap_alloc _ _ _ hi⟩
theorem But.cell {S : Nat → Prop} {w W : World} (h : But S w W) {p : Addr} {v : Value} (hc : w.cell? p = some v) (hn : ¬ S p.block) : W.cell? p = some v := by
  rw [cell_of_heap (h.block _ (cell_block hc) hn), hc]
theorem But.frozen {S : Nat → Prop} {w W : World} (h : But S w W) {p : Addr} (hc : p.block < w.heap.size) (hn : ¬ S p.block) (hz : w.frozen? p = false) : W.frozen? p = false := by
  rw [frozen_of_heap (h.block _ hc hn), hz]
theorem row_grew {w w' : World} {B n k : Nat} {E : TypeId} {v : Value} {xs : List Value} (h : w.ownsRow B E k v n xs) (g : Grew w w') : w'.ownsRow B E k v n xs := by
  refine ⟨h.1, ?_⟩
  rcases h.2 with h | ⟨b, cap, cur, e, hb, hg, r⟩
  · exact .inl h
  · exact .inr ⟨b, cap, cur, e, hb, (g.heap (Array.getElem?_eq_some_iff.1 hg).1).trans hg, r⟩
theorem row_but {S : Nat → Prop} {w w' : World} {B n k : Nat} {E : TypeId} {v : Value} {xs : List Value} (h : w.ownsRow B E k v n xs) (g : But S w w') (hS : ∀ i, v.ownBlock = some i → ¬ S i) : w'.ownsRow B E k v n xs := by
  refine ⟨h.1, ?_⟩
  rcases h.2 with h | ⟨b, cap, cur, rfl, hb, hg, r⟩
  · exact .inl h
  · exact .inr ⟨b, cap, cur, rfl, hb, (g.block _ (Array.getElem?_eq_some_iff.1 hg).1 (hS b rfl)).trans hg, r⟩
theorem row_base {w : World} {B B' n k : Nat} {E : TypeId} {v : Value} {xs : List Value} (h : w.ownsRow B E k v n xs) (hB : B' ≤ B) : w.ownsRow B' E k v n xs := by
  refine ⟨h.1, ?_⟩
  rcases h.2 with h | ⟨b, cap, cur, e, hb, r⟩
  · exact .inl h
  · exact .inr ⟨b, cap, cur, e, Nat.le_trans hB hb, r⟩
end Go.Proofs.YtbkkhafckkndfaaGreat

namespace Go.Proofs.YtbkkhafckkndfaaGreat
open Go Go.RowKit

/-! ### Rows of many cells -/
def setL : List Value → Nat → List Value → List Value
  | xs, _, [] => xs
  | xs, o, v :: vs => setL (xs.set o v) (o + 1) vs
theorem setL_far (l : List Value) : ∀ (vs r : List Value) (o : Nat), setL (l ++ r) (l.length + o) vs = l ++ setL r o vs
  | [], _, _ => rfl
  | v :: vs, r, o => by
    rw [setL, setL, List.set_append_right _ _ (by omega), Nat.add_sub_cancel_left]
    exact setL_far l vs (r.set o v) (o + 1)
theorem setL_head : ∀ (vs r : List Value), vs.length ≤ r.length → setL r 0 vs = vs ++ r.drop vs.length
  | [], r, _ => by simp [setL]
  | v :: vs, [], h => by simp at h
  | v :: vs, x :: r, h => by
    have := setL_far [v] vs r 0
    rw [setL, List.set_cons_zero]
    simp only [List.singleton_append, List.length_singleton] at this
    rw [show (0 : Nat) + 1 = 1 + 0 by rfl, this, setL_head vs r (by simpa using h)]
    simp
/-- A row of rows, one of them with other cells at its head. -/
theorem setL_flat (k : Nat) (vs : List Value) (hv : vs.length ≤ k) : ∀ (R : List (List Value)) (i : Nat) (r : List Value), (∀ x ∈ R, x.length = k) → R[i]? = some r → setL R.flatten (i * k) vs = (R.set i (vs ++ r.drop vs.length)).flatten
  | x :: R, 0, r, hk, hr => by
    obtain rfl : x = r := by simpa using hr
    have hx := hk x (by simp)
    rw [List.flatten_cons, Nat.zero_mul, setL_head vs _ (by simp; omega), List.set_cons_zero, List.flatten_cons, List.drop_append_of_le_length (by omega), List.append_assoc]
  | x :: R, i + 1, r, hk, hr => by
    have hx := hk x (by simp)
    rw [List.flatten_cons, show (i + 1) * k = x.length + i * k by rw [hx, Nat.add_mul]; omega, setL_far, setL_flat k vs hv R i r (fun y hy => hk y (by simp [hy])) (by simpa using hr), List.set_cons_succ, List.flatten_cons]
theorem flat_got (k : Nat) : ∀ (R : List (List Value)) (i : Nat) (r : List Value), (∀ x ∈ R, x.length = k) → R[i]? = some r → ∀ j v, r[j]? = some v → R.flatten[i * k + j]? = some v
  | x :: R, 0, r, hk, hr, j, v, hj => by
    obtain rfl : x = r := by simpa using hr
    have hjl : j < x.length := (List.getElem?_eq_some_iff.1 hj).1
    rw [List.flatten_cons, List.getElem?_append_left (by omega), Nat.zero_mul, Nat.zero_add, hj]
  | x :: R, i + 1, r, hk, hr, j, v, hj => by
    have hx := hk x (by simp)
    rw [List.flatten_cons, List.getElem?_append_right (by rw [hx, Nat.add_mul]; omega), hx, show (i + 1) * k + j - k = i * k + j by rw [Nat.add_mul]; omega]
    exact flat_got k R i r (fun y hy => hk y (by simp [hy])) (by simpa using hr) j v hj
theorem flat_length (k : Nat) : ∀ (R : List (List Value)), (∀ x ∈ R, x.length = k) → R.flatten.length = R.length * k
  | [], _ => by simp
  | x :: R, h => by rw [List.flatten_cons, List.length_append, h x (by simp), flat_length k R (fun y hy => h y (by simp [hy])), List.length_cons, Nat.add_mul]; omega

/-! ### What is owned, and a store of many cells -/
section
variable {w : World} {B E k g n cap : Nat} {xs : List Value}
theorem own_setCells : ∀ (vs : List Value) {w : World} {xs : List Value} (o : Nat), w.ownsRow B E k (.slice (some ⟨g, 0, none⟩) n cap) n xs → (w.setCells g o vs).ownsRow B E k (.slice (some ⟨g, 0, none⟩) n cap) n (setL xs o vs)
  | [], _, _, _, h => h
  | v :: vs, _, _, o, h => own_setCells vs (o + 1) (h.stored o v).1
theorem but_setCells {S : Nat → Prop} {b : Nat} (hb : S b) : ∀ (vs : List Value) (o : Nat) {w W : World}, But S w W → But S w (W.setCells b o vs)
  | [], _, _, _, h => h
  | v :: vs, o, _, _, h => but_setCells hb vs (o + 1) (h.set hb o none v)
theorem own_range (h : w.ownsRow B E k (.slice (some ⟨g, 0, none⟩) n cap) n xs) (o : Nat) (cs : List Value) (hc : ∀ j v, cs[j]? = some v → xs[o + j]? = some v) : w.rangeAt g o cs := fun j v hj => by
  have hx := hc j v hj
  have hl : o + j < n * k := by rw [← h.1]; exact (List.getElem?_eq_some_iff.1 hx).1
  rw [h.cellAt _ hl, hx]
theorem own_there (h : w.ownsRow B E k (.slice (some ⟨g, 0, none⟩) n cap) n xs) (o m : Nat) (hm : o + m ≤ n * k) : w.there g o m := fun j hj => by
  refine ⟨?_, h.frozenAt _⟩
  rw [h.cellAt _ (by omega), List.getElem?_eq_getElem (by rw [h.1]; omega)]
  rfl
end

/-! ### The rows of a platter -/
theorem pages_rows (L : List ByteArray) : pagesV L = (L.map pgV).flatten := by simp [pagesV, List.flatMap]
theorem wrs_rows (L : List Wr) : wrsV L = (L.map wrV).flatten := by simp [wrsV, List.flatMap]
theorem pages_len {L : List ByteArray} (h : ∀ x ∈ L, x.size = 128) : ∀ r ∈ L.map pgV, r.length = 128 := by
  intro r hr
  obtain ⟨x, hx, rfl⟩ := List.mem_map.1 hr
  rw [pgV_len, h x hx]
theorem wrs_len {L : List Wr} (h : ∀ x ∈ L, x.b.size = 128) : ∀ r ∈ L.map wrV, r.length = 129 := by
  intro r hr
  obtain ⟨x, hx, rfl⟩ := List.mem_map.1 hr
  rw [wrV_len, h x hx]
theorem pages_size {L : List ByteArray} (h : ∀ x ∈ L, x.size = 128) : (pagesV L).length = L.length * 128 := by rw [pages_rows, flat_length 128 _ (pages_len h), List.length_map]
theorem wrs_size {L : List Wr} (h : ∀ x ∈ L, x.b.size = 128) : (wrsV L).length = L.length * 129 := by rw [wrs_rows, flat_length 129 _ (wrs_len h), List.length_map]
theorem pages_one (L : List ByteArray) : ∀ v ∈ pagesV L, v.oneCell' = true := by
  intro v hv
  obtain ⟨x, _, hx⟩ := List.mem_flatMap.1 hv
  exact pgV_one x v hx
theorem wrs_one (L : List Wr) : ∀ v ∈ wrsV L, v.oneCell' = true := by
  intro v hv
  obtain ⟨x, _, hx⟩ := List.mem_flatMap.1 hv
  exact wrV_one x v hx

/-- A platter that lies at b. -/
structure PAt (w : World) (base b g1 c1 g2 c2 : Nat) (a3 : Option Addr) (c3 : Nat) (P : Pl) : Prop where
  lb : base ≤ b
  blk : w.heap[b]? = some (.cells #[.slice (some ⟨g1, 0, none⟩) P.now.length c1, .slice (some ⟨g2, 0, none⟩) P.now.length c2, .slice a3 P.float.length c3, .int .i64 P.left, .bool P.dead] 54 (0, 0))
  r1 : w.ownsRow base 62 128 (.slice (some ⟨g1, 0, none⟩) P.now.length c1) P.now.length (pagesV P.now)
  r2 : w.ownsRow base 62 128 (.slice (some ⟨g2, 0, none⟩) P.now.length c2) P.now.length (pagesV P.last)
  r3 : w.ownsRow base 64 129 (.slice a3 P.float.length c3) P.float.length (wrsV P.float)
  ap : g1 ≠ g2
  ok : P.ok
/-- The blocks of it. -/
def foot (b g1 g2 : Nat) (a3 : Option Addr) (i : Nat) : Prop := i = b ∨ i = g1 ∨ i = g2 ∨ (Value.slice a3 0 0).ownBlock = some i
/-- A platter at b; its blocks are among F. -/
def Disk (w : World) (base b : Nat) (F : Nat → Prop) (P : Pl) : Prop :=
  (∃ g1 c1 g2 c2 a3 c3, PAt w base b g1 c1 g2 c2 a3 c3 P ∧ ∀ i, foot b g1 g2 a3 i → F i) ∧ ∀ i, F i → base ≤ i ∧ i < w.heap.size

theorem own_any (a : Option Addr) (n c : Nat) : (Value.slice a n c).ownBlock = (Value.slice a 0 0).ownBlock := by cases a <;> rfl
section
variable {w : World} {base b g1 c1 g2 c2 c3 : Nat} {a3 : Option Addr} {P : Pl}
theorem PAt.k0 (h : PAt w base b g1 c1 g2 c2 a3 c3 P) : w.cell? ⟨b, 0, none⟩ = some (.slice (some ⟨g1, 0, none⟩) P.now.length c1) := by rw [cell_of_row w b 0 _ _ _ h.blk]; rfl
theorem PAt.k1 (h : PAt w base b g1 c1 g2 c2 a3 c3 P) : w.cell? ⟨b, 1, none⟩ = some (.slice (some ⟨g2, 0, none⟩) P.now.length c2) := by rw [cell_of_row w b 1 _ _ _ h.blk]; rfl
theorem PAt.k2 (h : PAt w base b g1 c1 g2 c2 a3 c3 P) : w.cell? ⟨b, 2, none⟩ = some (.slice a3 P.float.length c3) := by rw [cell_of_row w b 2 _ _ _ h.blk]; rfl
theorem PAt.k3 (h : PAt w base b g1 c1 g2 c2 a3 c3 P) : w.cell? ⟨b, 3, none⟩ = some (.int .i64 P.left) := by rw [cell_of_row w b 3 _ _ _ h.blk]; rfl
theorem PAt.k4 (h : PAt w base b g1 c1 g2 c2 a3 c3 P) : w.cell? ⟨b, 4, none⟩ = some (.bool P.dead) := by rw [cell_of_row w b 4 _ _ _ h.blk]; rfl
theorem PAt.z (h : PAt w base b g1 c1 g2 c2 a3 c3 P) (o : Nat) : w.frozen? ⟨b, o, none⟩ = false := frozen_of_row w b o _ _ h.blk
theorem PAt.bg (h : PAt w base b g1 c1 g2 c2 a3 c3 P) : ∀ i, foot b g1 g2 a3 i → base ≤ i ∧ i < w.heap.size := by
  rintro i (rfl | rfl | rfl | e)
  · exact ⟨h.lb, (Array.getElem?_eq_some_iff.1 h.blk).1⟩
  · exact h.r1.lt _ rfl
  · exact h.r2.lt _ rfl
  · exact h.r3.lt _ ((own_any _ _ _).trans e)
/-- The blocks are not the same ones. -/
theorem PAt.b1 (h : PAt w base b g1 c1 g2 c2 a3 c3 P) : g1 ≠ b := by
  rintro rfl
  rcases h.r1.2 with ⟨e, _⟩ | ⟨g, c, cur, e, _, hg, _⟩
  · cases e
  · cases e
    rw [h.blk] at hg
    simp at hg
theorem PAt.b2 (h : PAt w base b g1 c1 g2 c2 a3 c3 P) : g2 ≠ b := by
  rintro rfl
  rcases h.r2.2 with ⟨e, _⟩ | ⟨g, c, cur, e, _, hg, _⟩
  · cases e
  · cases e
    rw [h.blk] at hg
    simp at hg
theorem PAt.b3 (h : PAt w base b g1 c1 g2 c2 a3 c3 P) {i : Nat} (hi : (Value.slice a3 0 0).ownBlock = some i) : i ≠ b ∧ i ≠ g1 ∧ i ≠ g2 := by
  rcases h.r3.2 with ⟨e, _⟩ | ⟨g, c, cur, e, _, hg, _⟩
  · simp at e
    rw [e.1] at hi
    cases hi
  · simp at e
    rw [e.1] at hi
    obtain rfl : g = i := by simpa [Value.ownBlock] using hi
    refine ⟨?_, ?_, ?_⟩
    · rintro rfl
      rw [h.blk] at hg
      simp at hg
    · rintro rfl
      rcases h.r1.2 with ⟨e, _⟩ | ⟨g', c, cur', e, _, hg', _⟩
      · cases e
      · cases e
        rw [hg] at hg'
        simp at hg'
    · rintro rfl
      rcases h.r2.2 with ⟨e, _⟩ | ⟨g', c, cur', e, _, hg', _⟩
      · cases e
      · cases e
        rw [hg] at hg'
        simp at hg'
theorem PAt.but (h : PAt w base b g1 c1 g2 c2 a3 c3 P) {S : Nat → Prop} {W : World} (G : But S w W) (hS : ∀ i, foot b g1 g2 a3 i → ¬ S i) : PAt W base b g1 c1 g2 c2 a3 c3 P := by
  have hb := (Array.getElem?_eq_some_iff.1 h.blk).1
  refine ⟨h.lb, (G.block b hb (hS b (.inl rfl))).trans h.blk, row_but h.r1 G ?_, row_but h.r2 G ?_, row_but h.r3 G ?_, h.ap, h.ok⟩
  · rintro i e; cases e; exact hS _ (.inr (.inl rfl))
  · rintro i e; cases e; exact hS _ (.inr (.inr (.inl rfl)))
  · rintro i e; exact hS _ (.inr (.inr (.inr ((own_any _ _ _).symm.trans e))))
theorem PAt.reblk (h : PAt w base b g1 c1 g2 c2 a3 c3 P) {W : World} (G : But (fun i => i = b) w W) (l : Int) (d : Bool) (hl : inF l)
    (hb : W.heap[b]? = some (.cells #[.slice (some ⟨g1, 0, none⟩) P.now.length c1, .slice (some ⟨g2, 0, none⟩) P.now.length c2, .slice a3 P.float.length c3, .int .i64 l, .bool d] 54 (0, 0))) :
    PAt W base b g1 c1 g2 c2 a3 c3 { P with left := l, dead := d } := by
  have h3 := fun i hi => h.b3 (i := i) hi
  refine ⟨h.lb, hb, row_but h.r1 G ?_, row_but h.r2 G ?_, row_but h.r3 G ?_, h.ap, ⟨h.ok.len, h.ok.pos, h.ok.top, h.ok.now, h.ok.last, h.ok.float, h.ok.many, hl⟩⟩
  · rintro i e; cases e; exact h.b1
  · rintro i e; cases e; exact h.b2
  · rintro i e; exact (h3 i ((own_any _ _ _).symm.trans e)).1
theorem PAt.left (h : PAt w base b g1 c1 g2 c2 a3 c3 P) {n : Int} (hn : inF n) : PAt (w.setCell ⟨b, 3, none⟩ (.int .i64 n)) base b g1 c1 g2 c2 a3 c3 { P with left := n } := by
  refine h.reblk (d := P.dead) ((But.refl (fun i => i = b) w).set (b := b) rfl 3 none _) n hn ?_
  rw [heap_setCell_same w b 3 _ _ _ h.blk]
  rfl
theorem PAt.die (h : PAt w base b g1 c1 g2 c2 a3 c3 P) (d : Bool) : PAt (w.setCell ⟨b, 4, none⟩ (.bool d)) base b g1 c1 g2 c2 a3 c3 { P with dead := d } := by
  refine h.reblk (l := P.left) ((But.refl (fun i => i = b) w).set (b := b) rfl 4 none _) d h.ok.left ?_
  rw [heap_setCell_same w b 4 _ _ _ h.blk]
  rfl
theorem PAt.page (h : PAt w base b g1 c1 g2 c2 a3 c3 P) {i : Nat} (hi : i < P.now.length) : w.rangeAt g1 (i * 128) (pgV (pg P.now i)) :=
  own_range h.r1 _ _ fun j v hj => by
    rw [pages_rows]
    exact flat_got 128 _ i _ (pages_len h.ok.now) (by rw [List.getElem?_map, pg_get hi]; rfl) j v hj
theorem PAt.pageLast (h : PAt w base b g1 c1 g2 c2 a3 c3 P) {i : Nat} (hi : i < P.now.length) : w.rangeAt g2 (i * 128) (pgV (pg P.last i)) :=
  own_range h.r2 _ _ fun j v hj => by
    rw [pages_rows]
    exact flat_got 128 _ i _ (pages_len h.ok.last) (by rw [List.getElem?_map, pg_get (by rw [h.ok.len]; exact hi)]; rfl) j v hj
end
theorem pages_set (L : List ByteArray) (h : ∀ x ∈ L, x.size = 128) {i : Nat} (hi : i < L.length) (y : ByteArray) (vs : List Value) (hv : vs.length ≤ 128) (e : pgV y = vs ++ (pgV (pg L i)).drop vs.length) : setL (pagesV L) (i * 128) vs = pagesV (L.set i y) := by
  rw [pages_rows, setL_flat 128 vs hv _ i (pgV (pg L i)) (pages_len h) (by rw [List.getElem?_map, pg_get hi]; rfl), ← e, pages_rows, List.map_set]
theorem wrs_set (L : List Wr) (h : ∀ x ∈ L, x.b.size = 128) {i : Nat} (x : Wr) (hi : L[i]? = some x) (j : Nat) (v : Value) (hj : (wrV x)[j]? = some v) : (wrsV L)[i * 129 + j]? = some v := by
  rw [wrs_rows]
  exact flat_got 129 _ i _ (wrs_len h) (by rw [List.getElem?_map, hi]; rfl) j v hj
end Go.Proofs.YtbkkhafckkndfaaGreat

namespace Go.Proofs.YtbkkhafckkndfaaGreat
open Go Go.RowKit

section
variable {w : World} {base b g1 c1 g2 c2 c3 : Nat} {a3 : Option Addr} {P : Pl}
theorem none_any (h : PAt w base b g1 c1 g2 c2 a3 c3 P) : Calls Tryz.prog 33 #[.pointer (some ⟨b, 0, none⟩)] w fun e w' => e = .returned (.bool false) ∧ w' = w := by
  have k0 := h.k0
  have hp := h.ok.pos
  go_enter Tryz.func33, Tryz.ntmps33
  have hn : ((P.now.length : Int) == 0) = false := by simp; intro e; rw [e] at hp; simp at hp
  go_wp2
  go_ret
  exact ⟨rfl, rfl⟩
theorem none_nil (w : World) : Calls Tryz.prog 33 #[.pointer none] w fun e w' => e = .returned (.bool true) ∧ w' = w := by
  go_enter Tryz.func33, Tryz.ntmps33
  go_wp2
  go_ret
  exact ⟨rfl, rfl⟩
theorem has_any (h : PAt w base b g1 c1 g2 c2 a3 c3 P) (n : Int) : Calls Tryz.prog 19 #[.pointer (some ⟨b, 0, none⟩), .int .i64 n] w fun e w' => e = .returned (.bool (decide (0 ≤ n ∧ n < P.now.length))) ∧ w' = w := by
  have k0 := h.k0
  go_enter Tryz.func19, Tryz.ntmps19
  by_cases h0 : 0 ≤ n
  · go_wp2
    all_goals (go_ret; exact ⟨ret_bool (by simp [h0]), rfl⟩)
  · have h0' := h0
    go_wp2
    all_goals (go_ret; exact ⟨ret_bool (by simp; omega), rfl⟩)
theorem halted_any (h : PAt w base b g1 c1 g2 c2 a3 c3 P) : Calls Tryz.prog 18 #[.pointer (some ⟨b, 0, none⟩)] w fun e w' => e = .returned (.bool P.dead) ∧ w' = w := by
  have k4 := h.k4
  go_enter Tryz.func18, Tryz.ntmps18
  go_wp2_with (first | (go_at_call 33; go_fit (none_any h); rintro e w' ⟨rfl, rfl⟩))
  go_ret
  exact ⟨rfl, rfl⟩
theorem halted_nil (w : World) : Calls Tryz.prog 18 #[.pointer none] w fun e w' => e = .returned (.bool true) ∧ w' = w := by
  go_enter Tryz.func18, Tryz.ntmps18
  go_wp2_with (first | (go_at_call 33; go_fit (none_nil w); rintro e w' ⟨rfl, rfl⟩))
  go_ret
  exact ⟨rfl, rfl⟩
theorem strOf_page (x : ByteArray) : strOfNums (x.data.toList.map fun c => (c.toNat : Int)) = x := by
  unfold strOfNums
  rw [List.map_map]
  have : ((fun n : Int => UInt8.ofNat n.toNat) ∘ fun c : UInt8 => (c.toNat : Int)) = id := by
    funext c
    simp
  rw [this]
  simp
theorem load_any (h : PAt w base b g1 c1 g2 c2 a3 c3 P) (n : Int) : Calls Tryz.prog 11 #[.pointer (some ⟨b, 0, none⟩), .int .i64 n] w fun e w' => e = .returned (.tuple #[.string (loadP P n).1, .int .i64 (loadP P n).2]) ∧ w' = w := by
  have k0 := h.k0
  go_enter Tryz.func11, Tryz.ntmps11
  by_cases hd : P.dead = true
  · have e : loadP P n = (ByteArray.empty, 7) := by unfold loadP; rw [if_pos hd]
    rw [e]
    go_wp2_with (first | (go_at_call 18; go_fit (halted_any h); rintro e w' ⟨rfl, rfl⟩; rw [hd]))
    go_ret2
    exact ⟨rfl, rfl⟩
  · have hd' : P.dead = false := by simpa using hd
    by_cases hn : 0 ≤ n ∧ n < P.now.length
    · have e : loadP P n = (pg P.now n.toNat, 0) := by unfold loadP; rw [if_neg hd, if_pos hn]
      obtain ⟨k, rfl⟩ := Int.eq_ofNat_of_zero_le hn.1
      have hk : k < P.now.length := by omega
      rw [e]
      have hs : (pg P.now k).size = 128 := h.ok.now _ (pg_mem hk)
      have hr := h.page hk
      obtain ⟨x, hx⟩ : ∃ x, x = pg P.now k := ⟨_, rfl⟩
      rw [← hx] at hs hr
      have hv : (convert 60 9 (.slice (some ⟨g1, k * 128, none⟩) 128 128)).run Tryz.prog w = .ok (.string x) w := by
        rw [← strOf_page x]
        refine run_convert_bytes_arg w _ _ Tryz.underlying60 Tryz.underlying5 g1 (k * 128) 128 128 _ (by rw [List.length_map, Array.length_toList]; exact hs) (fun i hi => ?_) _ Tryz.underlying9
        have hi' : i < x.data.toList.length := by rw [Array.length_toList]; exact Nat.lt_of_lt_of_eq hi hs.symm
        have hq : x.data[i]? = some (x.data[i]'(by simpa using hi')) := Array.getElem?_eq_getElem _
        exact hr i _ (by rw [pgV, List.getElem?_map, List.getElem?_eq_getElem hi']; simp [List.getD, hq])
      have hdec : decide (0 ≤ (k : Int) ∧ (k : Int) < P.now.length) = true := by simpa using hn
      clear hs hr e
      simp only [Int.toNat_natCast, ← hx]
      clear hx
      go_wp2_with (first
        | (go_at_call 18; go_fit (halted_any h); rintro e w' ⟨rfl, rfl⟩; rw [hd'])
        | (go_at_call 19; go_fit (has_any h k); rintro e w' ⟨rfl, rfl⟩; rw [hdec]))
      go_ret2
      exact ⟨rfl, rfl⟩
    · have e : loadP P n = (ByteArray.empty, 6) := by unfold loadP; rw [if_neg hd, if_neg hn]
      have hdec : decide (0 ≤ n ∧ n < P.now.length) = false := by simpa using hn
      rw [e]
      go_wp2_with (first
        | (go_at_call 18; go_fit (halted_any h); rintro e w' ⟨rfl, rfl⟩; rw [hd'])
        | (go_at_call 19; go_fit (has_any h n); rintro e w' ⟨rfl, rfl⟩; rw [hdec]))
      go_ret2
      exact ⟨rfl, rfl⟩
end

/-- How many bytes of a store come: the cuts are a slice of ints that may be read. -/
def Cuts (w : World) (a : Option Addr) (l : List Int) : Prop :=
  (∀ x ∈ l, inF x) ∧ (l = [] ∨ ∃ b off, a = some ⟨b, off, none⟩ ∧ ∀ i, i < l.length → w.cell? ⟨b, off + i, none⟩ = some (.int .i64 (l.getD i 0)))
theorem ret_int {x y : Int} (h : x = y) : Ending.returned (.int .i64 x) = .returned (.int .i64 y) := by rw [h]
theorem conv_zeros (w : World) (n : Nat) (cs : Array Value) (hcs : cs.toList = List.replicate n (.int .u8 0)) : (convert 60 9 (.slice (some ⟨w.heap.size, 0, none⟩) n n)).run Tryz.prog (w.alloc (.cells cs 5)) = .ok (.string (zerosB n)) (w.alloc (.cells cs 5)) := by
  have e : strOfNums (List.replicate n (0 : Int)) = zerosB n := by simp [strOfNums, zerosB]
  rw [← e]
  refine run_convert_bytes_arg _ _ _ Tryz.underlying60 Tryz.underlying5 w.heap.size 0 n n _ (by simp) (fun i hi => ?_) _ Tryz.underlying9
  rw [cell_of_row _ w.heap.size (0 + i) cs _ _ (heap_alloc_new w _), Nat.zero_add]
  have : cs[i]? = (List.replicate n (Value.int .u8 0))[i]? := by rw [← hcs, Array.getElem?_toList]
  rw [this]
  simp [hi, List.getD]
set_option maxRecDepth 10000 in
theorem zeros_any (w : World) (n : Int) (h0 : 0 ≤ n) (hn : n ≤ 1000) : Calls Tryz.prog 17 #[.int .i64 n] w fun e w' => e = .returned (.string (zerosB n.toNat)) ∧ Grew w w' := by
  obtain ⟨k, rfl⟩ := Int.eq_ofNat_of_zero_le h0
  have hm : max (k : Int) 0 = k := by omega
  obtain ⟨cs, hcs, hr⟩ : ∃ cs : Array Value, cs.toList = List.replicate k (.int .u8 0) ∧ (Instr.makeSlice 60 (.int .i64 k) (.int .i64 k)).run Tryz.prog w = .ok (.slice (some ⟨w.heap.size, 0, none⟩) k k) (w.alloc (.cells cs 5)) :=
    ⟨madeCells (Value.int .u8 0).cells (k * 1), by rw [Nat.mul_one]; exact toList_madeCells_one _ _, run_make (P := Tryz.prog) w 60 5 _ _ Tryz.underlying60 rfl rfl .i64 .i64 k k (by omega) (Int.le_refl _) (by show (1 : Int) * k ≤ _; omega) (by omega)⟩
  have hc := conv_zeros w k cs hcs
  simp only [Int.toNat_natCast]
  go_enter Tryz.func17, Tryz.ntmps17
  go_wp2
  go_ret
  exact ⟨rfl, (Grew.refl w).alloc _ _⟩
theorem fill_any (w : World) (b : ByteArray) : Calls Tryz.prog 7 #[.string b] w fun e w' => e = .returned (.string (fillB b)) ∧ Grew w w' := by
  go_enter Tryz.func7, Tryz.ntmps7
  unfold fillB
  by_cases h : 128 < b.size
  · have hi : (128 : Int) < b.size := by omega
    rw [if_pos h]
    go_wp2
    go_ret
    exact ⟨rfl, Grew.refl w⟩
  · have hi : ¬ (128 : Int) < b.size := by omega
    have hw : wrap64 (128 - (b.size : Int)) = 128 - b.size := IntWalk.wrap64_in _ ⟨by omega, by omega⟩
    have ht : (128 - (b.size : Int)).toNat = 128 - b.size := by omega
    have hz : ¬ 9223372036854775807 < b.size + (zerosB (128 - b.size)).size := by rw [zerosB_size]; omega
    rw [if_neg h]
    go_wp2_with (first | (go_at_call 17; go_fit (zeros_any w (128 - (b.size : Int)) (by omega) (by omega)); rintro e w' ⟨rfl, hG⟩; rw [ht]))
    go_ret
    exact ⟨rfl, hG⟩
end Go.Proofs.YtbkkhafckkndfaaGreat

namespace Go.Proofs.YtbkkhafckkndfaaGreat
open Go Go.RowKit

theorem ofInt_wrap (x : Int) : BitVec.ofInt 64 (wrap64 x) = BitVec.ofInt 64 x := by
  apply BitVec.eq_of_toNat_eq
  rw [BitVec.toNat_ofInt, BitVec.toNat_ofInt]
  unfold wrap64
  congr 1
  omega
theorem or_byte (x b : Int) (h0 : 0 ≤ b) (h1 : b < 256) : bits .or .i64 (wrap64 (x * 256)) b = wrap64 (x * 256 + b) := by
  obtain ⟨B, rfl⟩ := Int.eq_ofNat_of_zero_le h0
  have e : IntKind.i64.wrap ((BitVec.ofInt 64 (wrap64 (x * 256)) ||| BitVec.ofInt 64 (B : Int)).toNat : Int) = wrap64 (x * 256 + B) := by
    rw [ofInt_wrap, BitVec.toNat_or, BitVec.toNat_ofInt, BitVec.toNat_ofInt]
    have eb : ((B : Int) % ((2 ^ 64 : Nat) : Int)).toNat = B := by omega
    obtain ⟨M, hM⟩ : ∃ M : Nat, (x * 256 % ((2 ^ 64 : Nat) : Int)).toNat = 256 * M := ⟨(x * 256 % ((2 ^ 64 : Nat) : Int)).toNat / 256, by omega⟩
    rw [eb, hM]
    have := Nat.two_pow_add_eq_or_of_lt (i := 8) (b := B) (by omega) M
    rw [show (2 : Nat) ^ 8 = 256 by decide] at this
    rw [← this]
    rw [IntKind.wrap_i64]
    unfold wrap64
    omega
  exact e
theorem valL_take (l : List UInt8) (k : Nat) (h : k < l.length) : valL (l.take (k + 1)) = valL (l.take k) * 256 + (l[k]).toNat := by
  rw [List.take_succ_eq_append_getElem h, valL_snoc]
theorem byte_list (s : ByteArray) {k : Nat} (h : k < s.size) : s[k] = s.data.toList[k]'(by rw [Array.length_toList]; exact h) := rfl
theorem or_step (n : Nat) (b : UInt8) : bits .or .i64 (wrap64 (wrap64 n * 256)) (wrap64 b.toNat) = wrap64 ((n * 256 + b.toNat : Nat) : Int) := by
  have := b.toNat_lt
  have e : wrap64 (wrap64 n * 256) = wrap64 ((n : Int) * 256) := by unfold wrap64; omega
  have e2 : wrap64 b.toNat = b.toNat := by unfold wrap64; omega
  rw [e, e2, or_byte _ _ (by omega) (by omega), Int.natCast_add, Int.natCast_mul]
  rfl
theorem meas_up {k n : Nat} (h : k < n) : n - (intOf (Value.int .i64 ((k : Int) + 1))).toNat < n - (intOf (Value.int .i64 (k : Int))).toNat := by
  simp only [intOf]
  omega
theorem of_any (s : ByteArray) (w : World) (hs : s.size < 9223372036854775807) : Calls Tryz.prog 39 #[.string s] w fun e w' => e = .returned (.int .i64 (numR s)) ∧ w' = w := by
  have hl : s.data.toList.length = s.size := Array.length_toList ..
  go_enter Tryz.func39, Tryz.ntmps39
  go_wp2
  go_loopw [3, 4] (fun n i wr => ∃ k : Nat, k ≤ s.size ∧ i = .int .i64 k ∧ n = .int .i64 (wrap64 (valL (s.data.toList.take k))) ∧ wr = w) (fun _ i _ => s.size - (intOf i).toNat)
  case atStart => exact ⟨0, by omega, rfl, by simp [valL, wrap64], rfl⟩
  case round =>
    obtain ⟨k, hk, rfl, rfl, rfl⟩ := hrel
    by_cases hlt : k < s.size
    · have hi : (k : Int) < s.size := by omega
      have e := (valL_take s.data.toList k (by omega)).symm
      rw [← byte_list s hlt] at e
      have hw : wrap64 ((k : Int) + 1) = k + 1 := IntWalk.wrap64_in _ ⟨by omega, by omega⟩
      go_wp2
      refine ⟨⟨k + 1, by omega, by simp, congrArg (Value.int .i64) ?_, trivial⟩, ?_⟩
      · rw [← e]
        exact or_step _ _
      · exact meas_up hlt
    · have hi : ¬ (k : Int) < s.size := by omega
      go_wp2
      go_ret
      refine ⟨?_, rfl⟩
      rw [List.take_of_length_le (by omega)]
      rfl
/-! ### A number in bytes -/
theorem shr_any (v n k : Nat) (hk : k < n) : (digs v n)[k]? = some (UInt8.ofNat (v / 256 ^ (n - 1 - k))) := by
  induction n generalizing v k with
  | zero => omega
  | succ n ih =>
    rw [digs]
    by_cases e : k = n
    · subst e
      rw [List.getElem?_append_right (by rw [digs_len]; omega), digs_len]
      simp
    · rw [List.getElem?_append_left (by rw [digs_len]; omega), ih (v / 256) k (by omega), Nat.div_div_eq_div_mul, ← Nat.pow_add_one', show n + 1 - 1 - k = n - 1 - k + 1 by omega]
def u8V (l : List UInt8) : List Value := l.map fun c => .int .u8 c.toNat
theorem row_up (D : List UInt8) (k : Nat) (h : k < D.length) :
    (u8V (D.take k) ++ List.replicate (D.length - k) (Value.int .u8 0)).set k (.int .u8 (D[k]).toNat) = u8V (D.take (k + 1)) ++ List.replicate (D.length - (k + 1)) (Value.int .u8 0) := by
  have e : D.length - k = (D.length - (k + 1)) + 1 := by omega
  have hl : (u8V (D.take k)).length = k := by simp [u8V]; omega
  rw [e, List.replicate_succ, List.set_append_right _ _ (by omega), hl, Nat.sub_self, List.set_cons_zero, List.take_succ_eq_append_getElem h]
  simp only [u8V, List.map_append, List.map_cons, List.map_nil, List.append_assoc, List.singleton_append]
theorem row_down (D : List UInt8) (k : Nat) (h : k < D.length) :
    (List.replicate (k + 1) (Value.int .u8 0) ++ u8V (D.drop (k + 1))).set k (.int .u8 (D[k]).toNat) = List.replicate k (.int .u8 0) ++ u8V (D.drop k) := by
  rw [List.replicate_succ', List.append_assoc, List.set_append_right _ _ (by simp), List.length_replicate, Nat.sub_self]
  rw [List.drop_eq_getElem_cons h]
  simp only [u8V, List.map_cons, List.singleton_append, List.set_cons_zero]
/-- A row of bytes of one's own, as a string. -/
theorem conv_own {w : World} {B g n cap : Nat} {D : List UInt8} (h : w.ownsRow B 5 1 (.slice (some ⟨g, 0, none⟩) n cap) n (u8V D)) (hn : D.length = n) :
    (convert 60 9 (.slice (some ⟨g, 0, none⟩) n cap)).run Tryz.prog w = .ok (.string ⟨D.toArray⟩) w := by
  have e : strOfNums (D.map fun c => (c.toNat : Int)) = ⟨D.toArray⟩ := strOf_page ⟨D.toArray⟩
  rw [← e]
  refine run_convert_bytes_arg _ _ _ Tryz.underlying60 Tryz.underlying5 g 0 n cap _ (by simpa using hn) (fun i hi => ?_) _ Tryz.underlying9
  rw [h.cellAt (0 + i) (by omega), Nat.zero_add]
  have hi' : i < D.length := by omega
  simp [u8V, hi']
theorem shr_in (v k n : Nat) (hv : k < n) (D : List UInt8) (hD : D = digs v n) (h : k < D.length) : (v : Int) / 2 ^ (8 * (n - 1 - k)) % 256 = ((D[k]'h).toNat : Int) := by
  have e := shr_any v n k hv
  rw [← hD, List.getElem?_eq_getElem h] at e
  have e2 : (2 : Int) ^ (8 * (n - 1 - k)) = ((256 ^ (n - 1 - k) : Nat) : Int) := by rw [Int.natCast_pow, Int.pow_mul]; rfl
  rw [Option.some.inj e, e2, UInt8.toNat_ofNat']
  omega
theorem digs_get (v k n : Nat) (hk : k < n) (D : List UInt8) (hD : D = digs v n) (h : k < D.length) : ((D[k]'h).toNat : Int) = ((v / 256 ^ (n - (k + 1)) : Nat) : Int) % 256 := by
  have e := shr_any v n k hk
  rw [← hD, List.getElem?_eq_getElem h] at e
  rw [Option.some.inj e, UInt8.toNat_ofNat', show n - 1 - k = n - (k + 1) by omega]
  omega
theorem and_byte (y : Nat) (hy : y < 9223372036854775808) : bits .and .i64 (y : Int) 255 % 256 = (y : Int) % 256 := by
  have e : IntKind.i64.wrap ((BitVec.ofInt 64 (y : Int) &&& BitVec.ofInt 64 255).toNat : Int) = (y : Int) % 256 := by
    have e1 : (BitVec.ofInt 64 (y : Int)).toNat = y := by rw [BitVec.toNat_ofInt]; omega
    have e2 : (BitVec.ofInt 64 255).toNat = 2 ^ 8 - 1 := by rw [BitVec.toNat_ofInt]; rfl
    rw [BitVec.toNat_and, e1, e2, Nat.and_two_pow_sub_one_eq_mod, IntKind.wrap_i64]
    omega
  have e' : bits .and .i64 (y : Int) 255 = (y : Int) % 256 := e
  rw [e']
  omega
theorem refbig_any (v n : Nat) (hv : v < 9223372036854775808) (hn : n ≤ 8) (w : World) : Calls Tryz.prog 63 #[.int .i64 v, .int .i64 n] w fun e w' => e = .returned (.string (bigB v n)) ∧ Grew w w' := by
  have hmk := run_make_row' (P := Tryz.prog) 60 5 (.int .u8 0) 1 Tryz.underlying60 (by kernel_rfl) rfl .i64 .i64 n (by omega) (by omega)
  obtain ⟨b, hb⟩ : ∃ b, b = w.heap.size := ⟨_, rfl⟩
  obtain ⟨D, hD⟩ : ∃ D, D = digs v n := ⟨_, rfl⟩
  have hl : D.length = n := by rw [hD]; exact digs_len n v
  have h0 : (w.alloc (.cells (madeCells #[Value.int .u8 0] n) 5)).ownsRow b 5 1 (.slice (some ⟨b, 0, none⟩) n n) n (List.replicate n (Value.int .u8 0) ++ u8V (D.drop n)) := by
    have := World.ownsRow_lit (e := 5) (base := b) (size := 1) w (madeCells #[Value.int .u8 0] n) n (by omega) (by have : maxLen = 9223372036854775807 := rfl; omega) (by rw [size_madeCells, Nat.mul_one])
    rw [toList_madeCells_one, ← hb] at this
    rw [List.drop_of_length_le (by omega)]
    simpa [u8V] using this
  go_enter Tryz.func63, Tryz.ntmps63
  go_wp2
  rw [← hb]
  have hG0 : Grew w (w.alloc (.cells (madeCells #[Value.int .u8 0] n) 5)) := (Grew.refl w).alloc _ _
  generalize w.alloc (.cells (madeCells #[Value.int .u8 0] n) 5) = W0 at *
  replace hb : Hid (w.heap.size ≤ b) := Nat.le_of_eq hb.symm
  replace hD : Hid (D = digs v n) := hD
  go_loopw [0, 6] (fun x i wr => ∃ k : Nat, k ≤ n ∧ i = .int .i64 ((k : Int) - 1) ∧ x = .int .i64 ((v / 256 ^ (n - k) : Nat) : Int) ∧ Grew w wr ∧ wr.ownsRow b 5 1 (.slice (some ⟨b, 0, none⟩) n n) n (List.replicate k (Value.int .u8 0) ++ u8V (D.drop k))) (fun _ i _ => ((intOf i) + 1).toNat)
  case atStart => exact ⟨n, by omega, rfl, by simp, hG0, h0⟩
  case round =>
    obtain ⟨k', hk, rfl, rfl, hG, hr⟩ := hrel
    cases k' with
    | succ k =>
      have ek : ((k + 1 : Nat) : Int) - 1 = k := by omega
      rw [ek]
      have c0 : wr.cell? ⟨b, k, none⟩ = some (.int .u8 0) := by
        rw [hr.cellAt k (by omega), List.getElem?_append_left (by simp), List.getElem?_replicate, if_pos (by omega)]
      have z0 : wr.frozen? ⟨b, k, none⟩ = false := hr.frozenAt k
      have hk' : (k : Int) < n := by omega
      have hd := digs_get v k n (by omega) D hD.out (by omega)
      have hq : v / 256 ^ (n - k) = v / 256 ^ (n - (k + 1)) / 256 := by rw [Nat.div_div_eq_div_mul, ← Nat.pow_succ, show (n - (k + 1)).succ = n - k by omega]
      have hx : v / 256 ^ (n - (k + 1)) < 9223372036854775808 := Nat.lt_of_le_of_lt (Nat.div_le_self _ _) hv
      replace hq : Hid (v / 256 ^ (n - k) = v / 256 ^ (n - (k + 1)) / 256) := hq
      generalize v / 256 ^ (n - (k + 1)) = y at *
      replace hd : Hid (((D[k]'(by omega)).toNat : Int) = (y : Int) % 256) := hd
      go_wp2
      refine ⟨⟨k, by omega, rfl, by rw [hq.out]; simp, hG.setCell hb.out _, ?_⟩, by simp only [intOf]; omega⟩
      rw [and_byte y hx, ← hd.out, ← row_down D k (by omega)]
      exact (hr.stored k _).1
    | zero =>
      have ek : ((0 : Nat) : Int) - 1 = -1 := by omega
      rw [ek]
      rw [List.replicate_zero, List.nil_append, List.drop_zero] at hr
      have hc := conv_own hr hl
      go_wp2
      go_ret
      exact ⟨by rw [hD.out]; rfl, hG⟩
end Go.Proofs.YtbkkhafckkndfaaGreat
