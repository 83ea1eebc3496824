/-
  Contacts in memory; Hit, tried; the statements' own first look ('alive' of stage 10's laws): it returns true; what was there stays.
-/
import Derived.Test.YtjnokjoaphmfkaaHTouch3
import Derived.Test.YtjnokjoaphmfkaaHLaw
namespace Go.Proofs.Ytjnokjoaphmfkaa
open Go.RowKit

/-- A contact that lies in memory. -/
structure HAt (w : World) (b : Nat) (h : Ht) : Prop where
  c0 : w.cell? ⟨b, 0, none⟩ = some (.int .i64 h.x)
  c1 : w.cell? ⟨b, 1, none⟩ = some (.int .i64 h.y)
  c2 : w.cell? ⟨b, 2, none⟩ = some (.int .i64 h.d)
theorem HAt.heap {w W : World} {b : Nat} {h : Ht} (k : HAt w b h) (g : W.heap[b]? = w.heap[b]?) : HAt W b h := by
  have e : ∀ o s, W.cell? ⟨b, o, s⟩ = w.cell? ⟨b, o, s⟩ := fun o s => cell_of_heap g
  exact ⟨(e _ _).trans k.c0, (e _ _).trans k.c1, (e _ _).trans k.c2⟩
theorem HAt.size {w : World} {b : Nat} {h : Ht} (k : HAt w b h) : b < w.heap.size := cell_block k.c0
theorem HAt.grew {w W : World} {b : Nat} {h : Ht} (k : HAt w b h) (g : Grew w W) : HAt W b h := k.heap (g.heap k.size)
theorem HAt.wrote {S : Nat → Prop} {w W : World} {b : Nat} {h : Ht} (k : HAt w b h) (g : Wrote S w W) (hb : ¬ S b) : HAt W b h := k.heap (g.block b k.size hb)
theorem hat_set (V : World) (a : Nat) (h g : Ht) (k : HAt V a h) : HAt (((V.setCell ⟨a, 0, none⟩ (.int .i64 g.x)).setCell ⟨a, 1, none⟩ (.int .i64 g.y)).setCell ⟨a, 2, none⟩ (.int .i64 g.d)) a g := by
  obtain ⟨h0, h1, h2⟩ := k
  constructor <;> simp [go_sem, h0, h1, h2]
theorem Grew.set3 {W V : World} (U : Grew W V) (S : Nat) (p q r : Value) : Wrote (fun n => n = S) W (((V.setCell ⟨S, 0, none⟩ p).setCell ⟨S, 1, none⟩ q).setCell ⟨S, 2, none⟩ r) :=
  ((U.wrote.set (S := fun n => n = S) rfl _ _ _).set (S := fun n => n = S) rfl _ _ _).set (S := fun n => n = S) rfl _ _ _
/-- A contact and a Boolean, laid into two variables. -/
theorem hit_laid (V : World) (c d : Nat) (hcd : c ≠ d) (h g : Ht) (z : Value) (t : Bool) (k : HAt V c h) (hb : V.cell? ⟨d, 0, none⟩ = some z) :
    HAt ((((V.setCell ⟨c, 0, none⟩ (.int .i64 g.x)).setCell ⟨c, 1, none⟩ (.int .i64 g.y)).setCell ⟨c, 2, none⟩ (.int .i64 g.d)).setCell ⟨d, 0, none⟩ (.bool t)) c g ∧ ((((V.setCell ⟨c, 0, none⟩ (.int .i64 g.x)).setCell ⟨c, 1, none⟩ (.int .i64 g.y)).setCell ⟨c, 2, none⟩ (.int .i64 g.d)).setCell ⟨d, 0, none⟩ (.bool t)).cell? ⟨d, 0, none⟩ = some (.bool t) := by
  have A := hat_set V c h g k
  have K := (Grew.refl V).set3 c (.int .i64 g.x) (.int .i64 g.y) (.int .i64 g.d)
  have B := K.cell hb (fun e => hcd e.symm)
  generalize ((V.setCell ⟨c, 0, none⟩ (.int .i64 g.x)).setCell ⟨c, 1, none⟩ (.int .i64 g.y)).setCell ⟨c, 2, none⟩ (.int .i64 g.d) = M at *
  have P := past_setCell d M 0 none (.bool t)
  exact ⟨⟨P.cell hcd A.c0, P.cell hcd A.c1, P.cell hcd A.c2⟩, World.cell?_setCell_same _ _ _ B⟩
theorem wrote_hit {S : Nat → Prop} {W V : World} (U : Wrote S W V) {c d : Nat} (hc : S c) (hd : S d) (p q r t : Value) :
    Wrote S W ((((V.setCell ⟨c, 0, none⟩ p).setCell ⟨c, 1, none⟩ q).setCell ⟨c, 2, none⟩ r).setCell ⟨d, 0, none⟩ t) := (((U.set hc _ _ _).set hc _ _ _).set hc _ _ _).set hd _ _ _
/-- What a closure that asks a contact leaves: the error, and the contact where there is none. -/
def LeftH (c d : Nat) (t : (Ht × Bool) × Int) (k : Int) (W : World) : Prop := k = t.2 ∧ (k = 0 → HAt W c t.1.1 ∧ W.cell? ⟨d, 0, none⟩ = some (.bool t.1.2))
theorem LeftH.keep {c d n : Nat} {t : (Ht × Bool) × Int} (hc : c < n) (hd : d < n) : ∀ k W W', (∀ i, i < n → W'.heap[i]? = W.heap[i]?) → LeftH c d t k W → LeftH c d t k W' :=
  fun _ _ _ hh h => ⟨h.1, fun hk => ⟨(h.2 hk).1.heap (hh c hc), by rw [cell_of_heap (hh d hd)]; exact (h.2 hk).2⟩⟩

theorem eq_hit (a b c p q r : Int) (w : World) : (binOp .eql 32 (.agg #[.int .i64 a, .int .i64 b, .int .i64 c]) (.agg #[.int .i64 p, .int .i64 q, .int .i64 r])).run Try.prog w = .ok (.bool ((a == p && b == q) && c == r)) w := by
  have hu := run_underlying Try.underlying32 w
  have hd : ∀ t x y, Op.equal t x y = Op.equalIn (9997 + 1 + 1 + 1) t x y := fun _ _ _ => rfl
  simp only [binOp, hd]
  rw [Op.equalIn]
  simp [go_sem, hu]
  by_cases h1 : a = p <;> by_cases h2 : b = q <;> by_cases h3 : c = r <;> simp [h1, h2, h3]
theorem ne_hit (a b c p q r : Int) (w : World) : (binOp .neq 32 (.agg #[.int .i64 a, .int .i64 b, .int .i64 c]) (.agg #[.int .i64 p, .int .i64 q, .int .i64 r])).run Try.prog w = .ok (.bool (!((a == p && b == q) && c == r))) w := by
  have hu := run_underlying Try.underlying32 w
  have hd : ∀ t x y, Op.equal t x y = Op.equalIn (9997 + 1 + 1 + 1) t x y := fun _ _ _ => rfl
  simp only [binOp, hd]
  rw [Op.equalIn]
  simp [go_sem, hu]
  by_cases h1 : a = p <;> by_cases h2 : b = q <;> by_cases h3 : c = r <;> simp [h1, h2, h3]
theorem same_hit (a b c : Int) (w : World) : (binOp .eql 32 (.agg #[.int .i64 a, .int .i64 b, .int .i64 c]) (.agg #[.int .i64 a, .int .i64 b, .int .i64 c])).run Try.prog w = .ok (.bool true) w := by rw [eq_hit]; simp
theorem ne_same_hit (a b c : Int) (w : World) : (binOp .neq 32 (.agg #[.int .i64 a, .int .i64 b, .int .i64 c]) (.agg #[.int .i64 a, .int .i64 b, .int .i64 c])).run Try.prog w = .ok (.bool false) w := by rw [ne_hit]; simp

set_option maxHeartbeats 1000000 in
theorem ask_alive (a b c d : Nat) (hcd : c ≠ d) (A B : Bd) (hA : A.ok) (hB : B.ok) (W : World) (bA : BAt W a A) (bB : BAt W b B) (h0 : Ht) (hH : HAt W c h0) (z : Bool) (hp : W.cell? ⟨d, 0, none⟩ = some (.bool z)) (zc : Free W c) (zd : Free W d) :
    Calls Try.prog 26 #[.pointer (some ⟨a, 0, none⟩), .pointer (some ⟨b, 0, none⟩), .pointer (some ⟨c, 0, none⟩), .pointer (some ⟨d, 0, none⟩)] W fun e w' =>
      Wrote (fun n => n = c ∨ n = d) W w' ∧ ∃ x, (e = .returned (.tuple #[]) ∧ x = 0 ∨ e = .panicked [fault x]) ∧ LeftH c d (hitR A B) x w' := by
  have c1 := fun W => waysH_of (touch_hit A B hA hB W)
  generalize hitR A B = T at *
  unfold Bd.val at c1
  have C1 : Hid _ := c1
  clear c1 hA hB
  obtain ⟨a0, a1, a2, a3, a4, a5, a6, a7⟩ := bA
  obtain ⟨b0, b1, b2, b3, b4, b5, b6, b7⟩ := bB
  obtain ⟨u0, u1, u2⟩ := hH
  go_enter Try.func26, Try.ntmps26
  go_wp2_with (first
    | (go_at_call 13; go_fit (C1.out _); rintro e V ⟨(⟨rfl, h1⟩ | ⟨rfl, h1⟩), U⟩; have c0 := U.cell u0; have c1 := U.cell u1; have c2 := U.cell u2; have c3 := U.cell hp; have z0 := U.frozen (zc 0 none); have z1 := U.frozen (zc 1 none); have z2 := U.frozen (zc 2 none); have z3 := U.frozen (zd 0 none)))
  rotate_left
  · exact ⟨rfl, U.wrote, _, .inr rfl, rfl, fun e => absurd e h1.out⟩
  go_end0
  exact ⟨wrote_hit U.wrote (.inl rfl) (.inr rfl) _ _ _ _, 0, .inl ⟨rfl, rfl⟩, h1.out.symm, fun _ => hit_laid V c d hcd h0 T.1.1 _ T.1.2 ⟨c0, c1, c2⟩ c3⟩
set_option maxHeartbeats 1000000 in
theorem ask_balls (a b c d : Nat) (hcd : c ≠ d) (A B : Bd) (hA : A.ok) (hB : B.ok) (W : World) (bA : BAt W a A) (bB : BAt W b B) (h0 : Ht) (hH : HAt W c h0) (z : Bool) (hp : W.cell? ⟨d, 0, none⟩ = some (.bool z)) (zc : Free W c) (zd : Free W d) :
    Calls Try.prog 21 #[.pointer (some ⟨a, 0, none⟩), .pointer (some ⟨b, 0, none⟩), .pointer (some ⟨c, 0, none⟩), .pointer (some ⟨d, 0, none⟩)] W fun e w' =>
      Wrote (fun n => n = c ∨ n = d) W w' ∧ ∃ x, (e = .returned (.tuple #[]) ∧ x = 0 ∨ e = .panicked [fault x]) ∧ LeftH c d (hitR A B) x w' := by
  have c1 := fun W => waysH_of (touch_hit A B hA hB W)
  generalize hitR A B = T at *
  unfold Bd.val at c1
  have C1 : Hid _ := c1
  clear c1 hA hB
  obtain ⟨a0, a1, a2, a3, a4, a5, a6, a7⟩ := bA
  obtain ⟨b0, b1, b2, b3, b4, b5, b6, b7⟩ := bB
  obtain ⟨u0, u1, u2⟩ := hH
  go_enter Try.func21, Try.ntmps21
  go_wp2_with (first
    | (go_at_call 13; go_fit (C1.out _); rintro e V ⟨(⟨rfl, h1⟩ | ⟨rfl, h1⟩), U⟩; have c0 := U.cell u0; have c1 := U.cell u1; have c2 := U.cell u2; have c3 := U.cell hp; have z0 := U.frozen (zc 0 none); have z1 := U.frozen (zc 1 none); have z2 := U.frozen (zc 2 none); have z3 := U.frozen (zd 0 none)))
  rotate_left
  · exact ⟨rfl, U.wrote, _, .inr rfl, rfl, fun e => absurd e h1.out⟩
  go_end0
  exact ⟨wrote_hit U.wrote (.inl rfl) (.inr rfl) _ _ _ _, 0, .inl ⟨rfl, rfl⟩, h1.out.symm, fun _ => hit_laid V c d hcd h0 T.1.1 _ T.1.2 ⟨c0, c1, c2⟩ c3⟩
set_option maxHeartbeats 1000000 in
theorem ask_moves1 (a b c d : Nat) (hcd : c ≠ d) (A B : Bd) (hA : A.ok) (hB : B.ok) (W : World) (bA : BAt W a A) (bB : BAt W b B) (h0 : Ht) (hH : HAt W c h0) (z : Bool) (hp : W.cell? ⟨d, 0, none⟩ = some (.bool z)) (zc : Free W c) (zd : Free W d) :
    Calls Try.prog 22 #[.pointer (some ⟨a, 0, none⟩), .pointer (some ⟨b, 0, none⟩), .pointer (some ⟨c, 0, none⟩), .pointer (some ⟨d, 0, none⟩)] W fun e w' =>
      Wrote (fun n => n = c ∨ n = d) W w' ∧ ∃ x, (e = .returned (.tuple #[]) ∧ x = 0 ∨ e = .panicked [fault x]) ∧ LeftH c d (hitR A B) x w' := by
  have c1 := fun W => waysH_of (touch_hit A B hA hB W)
  generalize hitR A B = T at *
  unfold Bd.val at c1
  have C1 : Hid _ := c1
  clear c1 hA hB
  obtain ⟨a0, a1, a2, a3, a4, a5, a6, a7⟩ := bA
  obtain ⟨b0, b1, b2, b3, b4, b5, b6, b7⟩ := bB
  obtain ⟨u0, u1, u2⟩ := hH
  go_enter Try.func22, Try.ntmps22
  go_wp2_with (first
    | (go_at_call 13; go_fit (C1.out _); rintro e V ⟨(⟨rfl, h1⟩ | ⟨rfl, h1⟩), U⟩; have c0 := U.cell u0; have c1 := U.cell u1; have c2 := U.cell u2; have c3 := U.cell hp; have z0 := U.frozen (zc 0 none); have z1 := U.frozen (zc 1 none); have z2 := U.frozen (zc 2 none); have z3 := U.frozen (zd 0 none)))
  rotate_left
  · exact ⟨rfl, U.wrote, _, .inr rfl, rfl, fun e => absurd e h1.out⟩
  go_end0
  exact ⟨wrote_hit U.wrote (.inl rfl) (.inr rfl) _ _ _ _, 0, .inl ⟨rfl, rfl⟩, h1.out.symm, fun _ => hit_laid V c d hcd h0 T.1.1 _ T.1.2 ⟨c0, c1, c2⟩ c3⟩
set_option maxHeartbeats 1000000 in
theorem ask_moves2 (a b c d : Nat) (hcd : c ≠ d) (A B : Bd) (hA : A.ok) (hB : B.ok) (W : World) (bA : BAt W a A) (bB : BAt W b B) (h0 : Ht) (hH : HAt W c h0) (z : Bool) (hp : W.cell? ⟨d, 0, none⟩ = some (.bool z)) (zc : Free W c) (zd : Free W d) :
    Calls Try.prog 23 #[.pointer (some ⟨a, 0, none⟩), .pointer (some ⟨b, 0, none⟩), .pointer (some ⟨c, 0, none⟩), .pointer (some ⟨d, 0, none⟩)] W fun e w' =>
      Wrote (fun n => n = c ∨ n = d) W w' ∧ ∃ x, (e = .returned (.tuple #[]) ∧ x = 0 ∨ e = .panicked [fault x]) ∧ LeftH c d (hitR A B) x w' := by
  have c1 := fun W => waysH_of (touch_hit A B hA hB W)
  generalize hitR A B = T at *
  unfold Bd.val at c1
  have C1 : Hid _ := c1
  clear c1 hA hB
  obtain ⟨a0, a1, a2, a3, a4, a5, a6, a7⟩ := bA
  obtain ⟨b0, b1, b2, b3, b4, b5, b6, b7⟩ := bB
  obtain ⟨u0, u1, u2⟩ := hH
  go_enter Try.func23, Try.ntmps23
  go_wp2_with (first
    | (go_at_call 13; go_fit (C1.out _); rintro e V ⟨(⟨rfl, h1⟩ | ⟨rfl, h1⟩), U⟩; have c0 := U.cell u0; have c1 := U.cell u1; have c2 := U.cell u2; have c3 := U.cell hp; have z0 := U.frozen (zc 0 none); have z1 := U.frozen (zc 1 none); have z2 := U.frozen (zc 2 none); have z3 := U.frozen (zd 0 none)))
  rotate_left
  · exact ⟨rfl, U.wrote, _, .inr rfl, rfl, fun e => absurd e h1.out⟩
  go_end0
  exact ⟨wrote_hit U.wrote (.inl rfl) (.inr rfl) _ _ _ _, 0, .inl ⟨rfl, rfl⟩, h1.out.symm, fun _ => hit_laid V c d hcd h0 T.1.1 _ T.1.2 ⟨c0, c1, c2⟩ c3⟩
set_option maxHeartbeats 1000000 in
theorem ask_tells (a b c d : Nat) (hcd : c ≠ d) (A B : Bd) (hA : A.ok) (hB : B.ok) (W : World) (bA : BAt W a A) (bB : BAt W b B) (h0 : Ht) (hH : HAt W c h0) (z : Bool) (hp : W.cell? ⟨d, 0, none⟩ = some (.bool z)) (zc : Free W c) (zd : Free W d) :
    Calls Try.prog 12 #[.pointer (some ⟨a, 0, none⟩), .pointer (some ⟨b, 0, none⟩), .pointer (some ⟨c, 0, none⟩), .pointer (some ⟨d, 0, none⟩)] W fun e w' =>
      Wrote (fun n => n = c ∨ n = d) W w' ∧ ∃ x, (e = .returned (.tuple #[]) ∧ x = 0 ∨ e = .panicked [fault x]) ∧ LeftH c d (hitR A B) x w' := by
  have c1 := fun W => waysH_of (touch_hit A B hA hB W)
  generalize hitR A B = T at *
  unfold Bd.val at c1
  have C1 : Hid _ := c1
  clear c1 hA hB
  obtain ⟨a0, a1, a2, a3, a4, a5, a6, a7⟩ := bA
  obtain ⟨b0, b1, b2, b3, b4, b5, b6, b7⟩ := bB
  obtain ⟨u0, u1, u2⟩ := hH
  go_enter Try.func12, Try.ntmps12
  go_wp2_with (first
    | (go_at_call 13; go_fit (C1.out _); rintro e V ⟨(⟨rfl, h1⟩ | ⟨rfl, h1⟩), U⟩; have c0 := U.cell u0; have c1 := U.cell u1; have c2 := U.cell u2; have c3 := U.cell hp; have z0 := U.frozen (zc 0 none); have z1 := U.frozen (zc 1 none); have z2 := U.frozen (zc 2 none); have z3 := U.frozen (zd 0 none)))
  rotate_left
  · exact ⟨rfl, U.wrote, _, .inr rfl, rfl, fun e => absurd e h1.out⟩
  go_end0
  exact ⟨wrote_hit U.wrote (.inl rfl) (.inr rfl) _ _ _ _, 0, .inl ⟨rfl, rfl⟩, h1.out.symm, fun _ => hit_laid V c d hcd h0 T.1.1 _ T.1.2 ⟨c0, c1, c2⟩ c3⟩
set_option maxHeartbeats 1000000 in
theorem ask_self (a c d : Nat) (hcd : c ≠ d) (A : Bd) (hA : A.ok) (W : World) (bA : BAt W a A) (h0 : Ht) (hH : HAt W c h0) (z : Bool) (hp : W.cell? ⟨d, 0, none⟩ = some (.bool z)) (zc : Free W c) (zd : Free W d) :
    Calls Try.prog 24 #[.pointer (some ⟨a, 0, none⟩), .pointer (some ⟨c, 0, none⟩), .pointer (some ⟨d, 0, none⟩)] W fun e w' =>
      Wrote (fun n => n = c ∨ n = d) W w' ∧ ∃ x, (e = .returned (.tuple #[]) ∧ x = 0 ∨ e = .panicked [fault x]) ∧ LeftH c d (hitR A A) x w' := by
  have c1 := fun W => waysH_of (touch_hit A A hA hA W)
  generalize hitR A A = T at *
  unfold Bd.val at c1
  have C1 : Hid _ := c1
  clear c1 hA
  obtain ⟨a0, a1, a2, a3, a4, a5, a6, a7⟩ := bA
  obtain ⟨u0, u1, u2⟩ := hH
  go_enter Try.func24, Try.ntmps24
  go_wp2_with (first
    | (go_at_call 13; go_fit (C1.out _); rintro e V ⟨(⟨rfl, h1⟩ | ⟨rfl, h1⟩), U⟩; have c0 := U.cell u0; have c1 := U.cell u1; have c2 := U.cell u2; have c3 := U.cell hp; have z0 := U.frozen (zc 0 none); have z1 := U.frozen (zc 1 none); have z2 := U.frozen (zc 2 none); have z3 := U.frozen (zd 0 none)))
  rotate_left
  · exact ⟨rfl, U.wrote, _, .inr rfl, rfl, fun e => absurd e h1.out⟩
  go_end0
  exact ⟨wrote_hit U.wrote (.inl rfl) (.inr rfl) _ _ _ _, 0, .inl ⟨rfl, rfl⟩, h1.out.symm, fun _ => hit_laid V c d hcd h0 T.1.1 _ T.1.2 ⟨c0, c1, c2⟩ c3⟩

def alA : Bd := ⟨1, 4294967296, 0, 0, 0, 0, 0, 0⟩
def alB : Bd := ⟨1, 4294967296, 0, 0, 6442450944, 0, 0, 0⟩
theorem alA_mild : Mild alA := ⟨⟨by decide, by decide⟩, ⟨by decide, by decide⟩, ⟨by decide, by decide⟩, ⟨by decide, by decide⟩⟩
theorem alB_mild : Mild alB := ⟨⟨by decide, by decide⟩, ⟨by decide, by decide⟩, ⟨by decide, by decide⟩, ⟨by decide, by decide⟩⟩
theorem alA_ok : alA.ok := by constructor <;> exact ⟨by decide, by decide⟩
theorem alB_ok : alB.ok := by constructor <;> exact ⟨by decide, by decide⟩
theorem al_hit : hitR alA alB = ((⟨4294967296, 0, 2147483648⟩, true), 0) := by
  rw [hit_mild alA_mild alB_mild, hit_11 rfl rfl]
  show (ballsI 8589934592 6442450944 0, (0 : Int)) = _
  unfold ballsI awayH unitI
  rw [rt2_swap, rt2_row (by decide) ⟨by decide, by decide⟩, if_neg (by decide), if_neg (by decide), qd_zero, qd_self (by decide)]
  rfl

set_option maxHeartbeats 1000000 in
theorem alive_any (w : World) :
    Calls Try.prog 9 #[] w fun e w' => e = .returned (.bool true) ∧ Grew w w' := by
  have hmf := mk_func
  have hq := same_vec 4294967296 0
  go_enter Try.func9, Try.ntmps9
  go_wp2_with (fail)
  obtain ⟨W, hW⟩ : ∃ W, W = (((w.alloc (.cells #[.int .i64 1, .int .i64 4294967296, .int .i64 0, .int .i64 0, .int .i64 0, .int .i64 0, .int .i64 0, .int .i64 0] 26)).alloc (.cells #[.int .i64 1, .int .i64 4294967296, .int .i64 0, .int .i64 0, .int .i64 6442450944, .int .i64 0, .int .i64 0, .int .i64 0] 26)).alloc (.cells #[.int .i64 0, .int .i64 0, .int .i64 0] 32)).alloc (.cells #[.bool false] 4) := ⟨_, rfl⟩
  rw [← hW]
  have GW : Grew w W := by rw [hW]; exact ((((Grew.refl w).alloc _ _).alloc _ _).alloc _ _).alloc _ _
  have sz : W.heap.size = w.heap.size + 1 + 1 + 1 + 1 := by rw [hW]; simp [go_sem]
  have hA : BAt W w.heap.size alA := by rw [hW]; constructor <;> simp [go_sem, alA]
  have hB : BAt W (w.heap.size + 1) alB := by rw [hW]; constructor <;> simp [go_sem, alB]
  have hv : HAt W (w.heap.size + 1 + 1) ⟨0, 0, 0⟩ := by rw [hW]; constructor <;> simp [go_sem]
  have hl : W.cell? ⟨w.heap.size + 1 + 1 + 1, 0, none⟩ = some (.bool false) := by rw [hW]; simp [go_sem]
  clear hW
  generalize hX : w.heap.size = X at *
  refine (try_set (S := fun n => n = X + 1 + 1 ∨ n = X + 1 + 1 + 1) (P := LeftH (X + 1 + 1) (X + 1 + 1 + 1) (hitR alA alB)) _ _ _ (fun _ => by simp [go_sem]) (fun n hn => by omega) (LeftH.keep (by omega) (by omega)) (fun W0 G => ?_)).mono ?_
  · exact ask_alive _ _ _ _ (by omega) alA alB alA_ok alB_ok W0 (hA.grew G) (hB.grew G) _ (hv.grew G) false (G.cell hl) ((GW.trans G).freeB (by omega)) ((GW.trans G).freeB (by omega))
  rintro e V ⟨hW, x, rfl, hx⟩
  rw [al_hit] at hx
  obtain ⟨rfl, h2⟩ := hx
  obtain ⟨⟨e0, e1, e2⟩, e3⟩ := h2 rfl
  simp only at e0 e1 e2 e3
  have G1 : Grew w V := hW.to GW (fun n hn => by omega)
  clear hW h2 hA hB hv hl sz GW
  go_wp2
  go_ret
  exact ⟨rfl, G1⟩
end Go.Proofs.Ytjnokjoaphmfkaa
