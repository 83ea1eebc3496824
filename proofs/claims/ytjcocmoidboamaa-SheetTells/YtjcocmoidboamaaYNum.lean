/-
  Numbers as bytes, the greatest first; crowns as bytes, and back (chapter 14), as plain lists; no program in sight.
-/
import Derived.Test.YtjcocmoidboamaaTNum
namespace Go.Proofs.Ytjcocmoidboamaa
open Go Go.RowKit

/-- v in n bytes. -/
def digs (v : Nat) : Nat → List UInt8
  | 0 => []
  | n + 1 => digs (v / 256) n ++ [UInt8.ofNat v]
/-- The number of bytes. -/
def valL (l : List UInt8) : Nat := l.foldl (fun r b => r * 256 + b.toNat) 0
def bigB (v n : Nat) : ByteArray := ⟨(digs v n).toArray⟩
theorem digs_len (n : Nat) : ∀ v, (digs v n).length = n := by
  induction n with
  | zero => intro v; rfl
  | succ n ih => intro v; simp [digs, ih]
theorem bigB_size (v n : Nat) : (bigB v n).size = n := by
  show (digs v n).toArray.size = n
  rw [List.size_toArray, digs_len]
theorem valL_snoc (l : List UInt8) (b : UInt8) : valL (l ++ [b]) = valL l * 256 + b.toNat := by simp [valL, List.foldl_append]
theorem val_digs (n : Nat) : ∀ v, v < 256 ^ n → valL (digs v n) = v := by
  induction n with
  | zero => intro v h; simp at h; subst h; rfl
  | succ n ih =>
    intro v h
    rw [digs, valL_snoc, ih (v / 256) (by rw [Nat.pow_succ] at h; omega)]
    simp
    omega
theorem digs_inj {n x y : Nat} (hx : x < 256 ^ n) (hy : y < 256 ^ n) (h : digs x n = digs y n) : x = y := by
  rw [← val_digs n x hx, ← val_digs n y hy, h]
theorem valL_lt (n : Nat) : ∀ l : List UInt8, l.length = n → valL l < 256 ^ n := by
  induction n with
  | zero => intro l h; rw [List.eq_nil_of_length_eq_zero h]; decide
  | succ n ih =>
    intro l h
    rcases List.eq_nil_or_concat l with rfl | ⟨l', b, rfl⟩
    · simp at h
    · rw [List.concat_eq_append, valL_snoc, Nat.pow_succ]
      have := ih l' (by simpa using h)
      have := b.toNat_lt
      omega
theorem digs_val (n : Nat) : ∀ l : List UInt8, l.length = n → digs (valL l) n = l := by
  induction n with
  | zero => intro l h; rw [List.eq_nil_of_length_eq_zero h]; rfl
  | succ n ih =>
    intro l h
    rcases List.eq_nil_or_concat l with rfl | ⟨l', b, rfl⟩
    · simp at h
    · rw [List.concat_eq_append, digs, valL_snoc]
      have hb := b.toNat_lt
      rw [show (valL l' * 256 + b.toNat) / 256 = valL l' by omega, ih l' (by simpa using h)]
      congr 2
      apply UInt8.toNat_inj.1
      simp
/-- What a number of bytes is as an int64. -/
def numR (s : ByteArray) : Int := wrap64 (valL s.data.toList)
theorem numR_in (s : ByteArray) : inF (numR s) := by unfold numR wrap64 inF; omega

/-! ### Crowns -/
structure Cr where
  g : Int
  r : Int
  p : Int
def noC : Cr := ⟨0, 0, 0⟩
def okC (c : Cr) : Bool := decide (1 ≤ c.g ∧ c.g ≤ 4611686018427387904 ∧ 8 ≤ c.p ∧ c.p ≤ 200 ∧ 2 ≤ c.r ∧ c.r < c.p)
theorem okC_iff (c : Cr) : okC c = true ↔ 1 ≤ c.g ∧ c.g ≤ 4611686018427387904 ∧ 8 ≤ c.p ∧ c.p ≤ 200 ∧ 2 ≤ c.r ∧ c.r < c.p := by simp [okC]
theorem okC_no (c : Cr) : okC c = false ↔ ¬ (1 ≤ c.g ∧ c.g ≤ 4611686018427387904 ∧ 8 ≤ c.p ∧ c.p ≤ 200 ∧ 2 ≤ c.r ∧ c.r < c.p) := by
  rw [← okC_iff]; simp
def putL (c : Cr) : List UInt8 := digs c.g.toNat 8 ++ digs c.r.toNat 2 ++ digs c.p.toNat 2 ++ List.replicate 108 0 ++ digs c.g.toNat 8
def putB (c : Cr) : ByteArray := ⟨(putL c).toArray⟩
def putV (c : Cr) : ByteArray := if okC c then putB c else ByteArray.empty
theorem putL_len (c : Cr) : (putL c).length = 128 := by simp [putL, digs_len]
theorem putB_size (c : Cr) : (putB c).size = 128 := by
  show (putL c).toArray.size = 128
  rw [List.size_toArray, putL_len]
def rawL (l : List UInt8) : Cr := ⟨wrap64 (valL (l.take 8)), wrap64 (valL ((l.drop 8).take 2)), wrap64 (valL ((l.drop 10).take 2))⟩
theorem take_gen (c : Cr) : (putL c).take 8 = digs c.g.toNat 8 := by
  unfold putL
  rw [List.append_assoc, List.append_assoc, List.append_assoc, List.take_append_of_le_length (by rw [digs_len]; omega), List.take_of_length_le (by rw [digs_len]; omega)]
theorem drop_gen (c : Cr) : (putL c).drop 120 = digs c.g.toNat 8 := by
  unfold putL
  rw [List.drop_append_of_le_length (by simp [digs_len]), List.drop_of_length_le (by simp [digs_len]), List.nil_append]
theorem raw_put {c : Cr} (h : okC c = true) : rawL (putL c) = c := by
  have h := (okC_iff c).1 h
  obtain ⟨g, r, p⟩ := c
  dsimp only at h
  have e1 : (putL ⟨g, r, p⟩).take 8 = digs g.toNat 8 := take_gen _
  have e2 : ((putL ⟨g, r, p⟩).drop 8).take 2 = digs r.toNat 2 := by
    unfold putL
    rw [List.append_assoc, List.append_assoc, List.append_assoc, List.drop_append, List.drop_of_length_le (by rw [digs_len]; omega), digs_len, Nat.sub_self, List.drop_zero, List.nil_append,
      List.take_append_of_le_length (by rw [digs_len]; omega), List.take_of_length_le (by rw [digs_len]; omega)]
  have e3 : ((putL ⟨g, r, p⟩).drop 10).take 2 = digs p.toNat 2 := by
    unfold putL
    rw [List.append_assoc, List.append_assoc, List.drop_append, List.drop_of_length_le (by simp [digs_len])]
    simp only [List.length_append, digs_len, List.nil_append]
    rw [List.drop_zero, List.take_append_of_le_length (by rw [digs_len]; omega), List.take_of_length_le (by rw [digs_len]; omega)]
  unfold rawL
  rw [e1, e2, e3, val_digs 8 _ (by omega), val_digs 2 _ (by omega), val_digs 2 _ (by omega)]
  unfold wrap64
  simp only [Cr.mk.injEq]
  omega
/-- What Get answers. -/
def isC (l : List UInt8) : Bool := okC (rawL l) && putL (rawL l) == l
def getL (l : List UInt8) : Cr := if isC l then rawL l else noC
theorem isC_iff (l : List UInt8) : isC l = true ↔ ∃ c, okC c = true ∧ putL c = l := by
  unfold isC
  constructor
  · intro h
    simp at h
    exact ⟨_, h.1, h.2⟩
  · rintro ⟨c, h, rfl⟩
    rw [raw_put h, h]
    simp
theorem isC_put {c : Cr} (h : okC c = true) : isC (putL c) = true := (isC_iff _).2 ⟨c, h, rfl⟩
theorem get_put {c : Cr} (h : okC c = true) : getL (putL c) = c := by unfold getL; rw [if_pos (isC_put h), raw_put h]
theorem get_is {l : List UInt8} (h : isC l = true) : okC (getL l) = true ∧ putL (getL l) = l := by
  obtain ⟨c, h1, rfl⟩ := (isC_iff l).1 h
  rw [get_put h1]
  exact ⟨h1, rfl⟩
theorem get_no {l : List UInt8} (h : isC l = false) : getL l = noC := by unfold getL; rw [if_neg (by rw [h]; decide)]
theorem isC_len {l : List UInt8} (h : isC l = true) : l.length = 128 := by
  obtain ⟨c, _, rfl⟩ := (isC_iff l).1 h
  exact putL_len c
theorem isC_ends {l : List UInt8} (h : isC l = true) : l.take 8 = l.drop 120 := by
  obtain ⟨c, _, rfl⟩ := (isC_iff l).1 h
  rw [take_gen, drop_gen]
theorem get_gen (l : List UInt8) : 0 ≤ (getL l).g ∧ (isC l = true → 1 ≤ (getL l).g) ∧ (isC l = false → (getL l).g = 0) := by
  cases h : isC l with
  | false => rw [get_no h]; simp [noC]
  | true =>
    have := (okC_iff _).1 (get_is h).1
    simp
    omega
/-- What Pick answers. -/
def pickC (a b : List UInt8) : Cr := if (getL a).g < (getL b).g then getL b else getL a
def pickI (a b : List UInt8) : Int := if (getL a).g < (getL b).g then 1 else 0
def pickO (a b : List UInt8) : Bool := isC a || isC b
theorem put_inj {a b : Cr} (ha : okC a = true) (hb : okC b = true) (h : putL a = putL b) : a = b := by rw [← raw_put ha, ← raw_put hb, h]
theorem gen_inj {a b : Cr} (ha : okC a = true) (hb : okC b = true) (h : (putL a).take 8 = (putL b).take 8) : a.g = b.g := by
  rw [take_gen, take_gen] at h
  have ha := (okC_iff a).1 ha
  have hb := (okC_iff b).1 hb
  have := digs_inj (by omega) (by omega) h
  omega
/-- Of a Put of which the first bytes came over a Put of another number: it is the one, or the other, or none. -/
theorem tears {a b : Cr} (ha : okC a = true) (hb : okC b = true) (hg : a.g ≠ b.g) (n : Nat) (h : isC ((putL b).take n ++ (putL a).drop n) = true) :
    getL ((putL b).take n ++ (putL a).drop n) = a ∨ getL ((putL b).take n ++ (putL a).drop n) = b := by
  obtain ⟨Z, hZ⟩ : ∃ Z, Z = (putL b).take n ++ (putL a).drop n := ⟨_, rfl⟩
  rw [← hZ] at h ⊢
  have he := isC_ends h
  have ea := isC_ends (isC_put ha)
  have eb := isC_ends (isC_put hb)
  have la := putL_len a
  have lb := putL_len b
  by_cases hn : n ≤ 120
  · have d : Z.drop 120 = (putL a).drop 120 := by
      rw [hZ, List.drop_append, List.length_take, List.drop_of_length_le (by rw [List.length_take]; omega), List.nil_append, List.drop_drop]
      congr 1
      omega
    by_cases h8 : 8 ≤ n
    · exfalso
      apply hg
      apply gen_inj ha hb
      rw [ea, ← d, ← he, hZ, List.take_append_of_le_length (by rw [List.length_take]; omega), List.take_take, Nat.min_eq_left h8]
    · left
      have q : Z = putL a := by
        rw [← List.take_append_drop 8 Z, ← List.take_append_drop 8 (putL a), he, d, ← ea]
        congr 1
        rw [hZ, List.drop_append, List.length_take, List.drop_of_length_le (by rw [List.length_take]; omega), List.nil_append, List.drop_drop]
        congr 1
        omega
      rw [q, get_put ha]
  · right
    have t8 : Z.take 8 = (putL b).take 8 := by rw [hZ, List.take_append_of_le_length (by rw [List.length_take]; omega), List.take_take, Nat.min_eq_left (by omega)]
    have q : Z = putL b := by
      rw [← List.take_append_drop 120 Z, ← List.take_append_drop 120 (putL b), ← he, t8, eb]
      congr 1
      rw [hZ, List.take_append_of_le_length (by rw [List.length_take]; omega), List.take_take, Nat.min_eq_left (by omega)]
    rw [q, get_put hb]
theorem set_ne {l : List UInt8} {k : Nat} (h : k < l.length) {x : UInt8} (hx : x ≠ l[k]) : l.take k ++ [x] ++ l.drop (k + 1) ≠ l := by
  intro e
  have := congrArg (fun m => m[k]?) e
  simp [h, Nat.min_eq_left (Nat.le_of_lt h)] at this
  exact hx this
/-- With one byte of one of its two numbers turned it is none. -/
theorem turned {c : Cr} (hc : okC c = true) {k : Nat} (hk : k < 128) (hk2 : k < 8 ∨ 120 ≤ k) {x : UInt8} (hx : x ≠ (putL c)[k]'(by rw [putL_len]; exact hk)) :
    isC ((putL c).take k ++ [x] ++ (putL c).drop (k + 1)) = false := by
  have hl := putL_len c
  obtain ⟨Z, hZ⟩ : ∃ Z, Z = (putL c).take k ++ [x] ++ (putL c).drop (k + 1) := ⟨_, rfl⟩
  have ec := isC_ends (isC_put hc)
  have hne : Z ≠ putL c := by rw [hZ]; exact set_ne (by omega) hx
  rw [← hZ]
  cases h : isC Z with
  | false => rfl
  | true =>
    exfalso
    have he := isC_ends h
    apply hne
    rcases hk2 with h8 | h8
    · have d : Z.drop 8 = (putL c).drop 8 := by
        rw [hZ, List.drop_append, List.drop_of_length_le (by simp; omega), List.nil_append, List.length_append, List.length_take, List.length_singleton, Nat.min_eq_left (by omega), List.drop_drop]
        congr 1
        omega
      have d2 : Z.drop 120 = (putL c).drop 120 := by
        have := congrArg (List.drop 112) d
        rwa [List.drop_drop, List.drop_drop] at this
      rw [← List.take_append_drop 8 Z, ← List.take_append_drop 8 (putL c), d, he, d2, ec]
    · have t : Z.take 120 = (putL c).take 120 := by
        rw [hZ, List.append_assoc, List.take_append_of_le_length (by rw [List.length_take]; omega), List.take_take, Nat.min_eq_left h8]
      have t8 : Z.take 8 = (putL c).take 8 := by
        have := congrArg (List.take 8) t
        rwa [List.take_take, List.take_take] at this
      rw [← List.take_append_drop 120 Z, ← List.take_append_drop 120 (putL c), t, ← he, t8, ec]
end Go.Proofs.Ytjcocmoidboamaa
