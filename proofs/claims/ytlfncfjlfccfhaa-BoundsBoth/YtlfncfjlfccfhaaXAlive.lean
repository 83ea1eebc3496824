/-
  Boxes in memory; Of, tried; the statements' own first look ('alive' of stage 8's laws): it returns true; what was there stays.
-/
import Derived.Test.YtlfncfjlfccfhaaXOf
namespace Go.Proofs.Ytlfncfjlfccfhaa
open Go.RowKit

/-- A box that lies in memory. -/
structure XAt (w : World) (b : Nat) (x : Bx) : Prop where
  c0 : w.cell? ⟨b, 0, none⟩ = some (.int .i64 x.l)
  c1 : w.cell? ⟨b, 1, none⟩ = some (.int .i64 x.m)
  c2 : w.cell? ⟨b, 2, none⟩ = some (.int .i64 x.h)
  c3 : w.cell? ⟨b, 3, none⟩ = some (.int .i64 x.k)
theorem XAt.heap {w W : World} {b : Nat} {x : Bx} (h : XAt w b x) (g : W.heap[b]? = w.heap[b]?) : XAt W b x := by
  have k : ∀ o s, W.cell? ⟨b, o, s⟩ = w.cell? ⟨b, o, s⟩ := fun o s => cell_of_heap g
  exact ⟨(k _ _).trans h.c0, (k _ _).trans h.c1, (k _ _).trans h.c2, (k _ _).trans h.c3⟩
theorem XAt.size {w : World} {b : Nat} {x : Bx} (h : XAt w b x) : b < w.heap.size := cell_block h.c0
theorem XAt.grew {w W : World} {b : Nat} {x : Bx} (h : XAt w b x) (g : Grew w W) : XAt W b x := h.heap (g.heap h.size)
theorem XAt.wrote {S : Nat → Prop} {w W : World} {b : Nat} {x : Bx} (h : XAt w b x) (g : Wrote S w W) (hb : ¬ S b) : XAt W b x := h.heap (g.block b h.size hb)
theorem xat_set (V : World) (a : Nat) (x y : Bx) (h : XAt V a x) : XAt ((((V.setCell ⟨a, 0, none⟩ (.int .i64 y.l)).setCell ⟨a, 1, none⟩ (.int .i64 y.m)).setCell ⟨a, 2, none⟩ (.int .i64 y.h)).setCell ⟨a, 3, none⟩ (.int .i64 y.k)) a y := by
  obtain ⟨h0, h1, h2, h3⟩ := h
  constructor <;> simp [go_sem, h0, h1, h2, h3]
theorem Grew.set4 {W V : World} (U : Grew W V) (S : Nat) (p q r s : Value) : Wrote (fun n => n = S) W ((((V.setCell ⟨S, 0, none⟩ p).setCell ⟨S, 1, none⟩ q).setCell ⟨S, 2, none⟩ r).setCell ⟨S, 3, none⟩ s) :=
  (((U.wrote.set (S := fun n => n = S) rfl _ _ _).set (S := fun n => n = S) rfl _ _ _).set (S := fun n => n = S) rfl _ _ _).set (S := fun n => n = S) rfl _ _ _
/-- What a closure that asks a box leaves: the error, and the box where there is none. -/
def LeftX (X : Nat) (t : Bx × Int) (k : Int) (W : World) : Prop := k = t.2 ∧ (k = 0 → XAt W X t.1)
theorem LeftX.keep {X n : Nat} {t : Bx × Int} (hX : X < n) : ∀ k W W', (∀ i, i < n → W'.heap[i]? = W.heap[i]?) → LeftX X t k W → LeftX X t k W' :=
  fun _ _ _ hh h => ⟨h.1, fun hk => (h.2 hk).heap (hh X hX)⟩

theorem field_x (x y : Int) (w : World) : (Instr.field 24 (.agg #[.int .i64 x, .int .i64 y]) 0).run Try.prog w = .ok (.int .i64 x) w := by kernel_rfl
theorem field_y (x y : Int) (w : World) : (Instr.field 24 (.agg #[.int .i64 x, .int .i64 y]) 1).run Try.prog w = .ok (.int .i64 y) w := by kernel_rfl

def unitBd : Bd := ⟨1, 4294967296, 0, 0, 0, 0, 0, 0⟩
def unitBx : Bx := ⟨-4294967296, -4294967296, 4294967296, 4294967296⟩
theorem unit_ok : unitBd.ok := by constructor <;> exact ⟨by decide, by decide⟩
theorem unit_box : boxR unitBd = (unitBx, 0) := rfl

set_option maxHeartbeats 400000 in
theorem xal1_any (a : Nat) (W : World) (hX : XAt W a ⟨0, 0, 0, 0⟩) (z : Free W a) :
    Calls Try.prog 22 #[.pointer (some ⟨a, 0, none⟩)] W fun e w' =>
      Wrote (fun n => n = a) W w' ∧ ∃ x, (e = .returned (.tuple #[]) ∧ x = 0 ∨ e = .panicked [fault x]) ∧ (x = 0 ∧ XAt w' a unitBx) := by
  have HO : Hid (∀ W, Calls Try.prog 12 #[.agg #[.int .i64 1, .int .i64 4294967296, .int .i64 0, .int .i64 0, .int .i64 0, .int .i64 0, .int .i64 0, .int .i64 0]] W fun e w' => e = .returned (.agg #[.int .i64 (-4294967296), .int .i64 (-4294967296), .int .i64 4294967296, .int .i64 4294967296]) ∧ Grew W w') := fun W => by
    have := of_box unitBd unit_ok W
    rw [unit_box] at this
    exact this
  obtain ⟨u0, u1, u2, u3⟩ := hX
  simp only at u0 u1 u2 u3
  go_enter Try.func22, Try.ntmps22
  go_wp2_with (first
    | (go_at_call 12; go_fit (HO.out _); rintro e V ⟨rfl, U⟩; have c0 := U.cell u0; have c1 := U.cell u1; have c2 := U.cell u2; have c3 := U.cell u3; have z0 := U.frozen (z 0 none); have z1 := U.frozen (z 1 none); have z2 := U.frozen (z 2 none); have z3 := U.frozen (z 3 none)))
  go_end0
  exact ⟨U.set4 a _ _ _ _, 0, .inl ⟨rfl, rfl⟩, rfl, xat_set V a ⟨0, 0, 0, 0⟩ unitBx ⟨c0, c1, c2, c3⟩⟩

set_option maxHeartbeats 1000000 in
theorem alive_any (w : World) :
    Calls Try.prog 8 #[] w fun e w' => e = .returned (.bool true) ∧ Grew w w' := by
  have hmf := mk_func
  have hfx := field_x
  have HM : Hid (∀ W, Calls Try.prog 13 #[.agg #[.int .i64 (-4294967296), .int .i64 (-4294967296), .int .i64 4294967296, .int .i64 4294967296], .agg #[.int .i64 (-4294967296), .int .i64 (-4294967296), .int .i64 4294967296, .int .i64 4294967296]] W fun e w' => e = .returned (.bool true) ∧ Grew W w') := fun W => meet_any unitBx unitBx W
  have HI : Hid (∀ W, Calls Try.prog 16 #[.agg #[.int .i64 0, .int .i64 0], .agg #[.int .i64 (-4294967296), .int .i64 (-4294967296), .int .i64 4294967296, .int .i64 4294967296]] W fun e w' => e = .returned (.bool true) ∧ Grew W w') := fun W => in_any 0 0 unitBx W
  have HC : Hid (∀ W, Calls Try.prog 17 #[.agg #[.int .i64 38654705664, .int .i64 0], .agg #[.int .i64 (-4294967296), .int .i64 (-4294967296), .int .i64 4294967296, .int .i64 4294967296]] W fun e w' => e = .returned (.agg #[.int .i64 4294967296, .int .i64 0]) ∧ Grew W w') := fun W => clamp_any 38654705664 0 unitBx W
  go_enter Try.func8, Try.ntmps8
  go_wp2_with (fail)
  refine (try_set (S := fun n => n = w.heap.size) (P := fun x W => x = 0 ∧ XAt W w.heap.size unitBx) _ _ _ (fun _ => by simp [go_sem]) (fun n hn => by simp [go_sem]; omega) ?_ ?_).mono ?_
  · rintro x W1 W2 hh ⟨h1, h2⟩
    exact ⟨h1, h2.heap (hh _ (by simp [go_sem]))⟩
  · intro W0 G
    refine xal1_any _ W0 (XAt.grew ?_ G) ((((Grew.refl w).alloc _ _).trans G).freeB (Nat.le_refl _))
    constructor <;> simp [go_sem]
  rintro e V ⟨hW, x, rfl, rfl, ⟨c0, c1, c2, c3⟩⟩
  have G1 : Grew w V := hW.to ((Grew.refl w).alloc _ _) (fun n hn => by omega)
  simp only [unitBx] at c0 c1 c2 c3
  clear hW
  go_wp2_with (first
    | (go_at_call 13; go_fit (HM.out _); rintro e V1 ⟨rfl, U1⟩; have d0 := U1.cell c0; have d1 := U1.cell c1; have d2 := U1.cell c2; have d3 := U1.cell c3)
    | (go_at_call 16; go_fit (HI.out _); rintro e V2 ⟨rfl, U2⟩; have e0 := U2.cell d0; have e1 := U2.cell d1; have e2 := U2.cell d2; have e3 := U2.cell d3)
    | (go_at_call 17; go_fit (HC.out _); rintro e V3 ⟨rfl, U3⟩))
  go_ret
  exact ⟨rfl, ((G1.trans U1).trans U2).trans U3⟩
end Go.Proofs.Ytlfncfjlfccfhaa
