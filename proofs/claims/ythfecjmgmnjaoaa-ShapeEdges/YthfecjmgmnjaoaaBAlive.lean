/-
  The statements' own first look ('alive' of stage 7's laws): it returns true; what was there stays.
-/
import Derived.Test.YthfecjmgmnjaoaaBCalls
import Derived.Test.YthfecjmgmnjaoaaVTry
namespace Go.Proofs.Ythfecjmgmnjaoaa
open Go.RowKit

def balB : Bd := ⟨1, 4294967296, 0, 8589934592, 0, 0, 17179869184, 0⟩
theorem balB_speed : speedR balB = (8589934592, 0, 0) := by decide +kernel
theorem balB_light : lightR balB = (2147483648, 0) := by decide +kernel
theorem balB_right : rightB balB = true := by decide +kernel
theorem bal0_right : rightB ⟨0, 0, 0, 0, 0, 0, 0, 0⟩ = false := by decide +kernel
theorem balB_ok : balB.ok := by constructor <;> exact ⟨by decide, by decide⟩

/-- A body that lies in memory. -/
structure BAt (w : World) (b : Nat) (B : Bd) : Prop where
  c0 : w.cell? ⟨b, 0, none⟩ = some (.int .i64 B.s)
  c1 : w.cell? ⟨b, 1, none⟩ = some (.int .i64 B.a)
  c2 : w.cell? ⟨b, 2, none⟩ = some (.int .i64 B.b)
  c3 : w.cell? ⟨b, 3, none⟩ = some (.int .i64 B.m)
  c4 : w.cell? ⟨b, 4, none⟩ = some (.int .i64 B.p)
  c5 : w.cell? ⟨b, 5, none⟩ = some (.int .i64 B.q)
  c6 : w.cell? ⟨b, 6, none⟩ = some (.int .i64 B.u)
  c7 : w.cell? ⟨b, 7, none⟩ = some (.int .i64 B.v)
theorem BAt.heap {w W : World} {b : Nat} {B : Bd} (h : BAt w b B) (g : W.heap[b]? = w.heap[b]?) : BAt W b B := by
  have k : ∀ o s, W.cell? ⟨b, o, s⟩ = w.cell? ⟨b, o, s⟩ := fun o s => cell_of_heap g
  exact ⟨(k _ _).trans h.c0, (k _ _).trans h.c1, (k _ _).trans h.c2, (k _ _).trans h.c3, (k _ _).trans h.c4, (k _ _).trans h.c5, (k _ _).trans h.c6, (k _ _).trans h.c7⟩
theorem BAt.size {w : World} {b : Nat} {B : Bd} (h : BAt w b B) : b < w.heap.size := cell_block h.c0
theorem BAt.grew {w W : World} {b : Nat} {B : Bd} (h : BAt w b B) (g : Grew w W) : BAt W b B := h.heap (g.heap h.size)
theorem BAt.wrote {S : Nat → Prop} {w W : World} {b : Nat} {B : Bd} (h : BAt w b B) (g : Wrote S w W) (hb : ¬ S b) : BAt W b B := h.heap (g.block b h.size hb)

theorem bat_m {w : World} {b : Nat} {B : Bd} (h : BAt w b B) (m : Int) : BAt (w.setCell ⟨b, 3, none⟩ (.int .i64 m)) b ⟨B.s, B.a, B.b, m, B.p, B.q, B.u, B.v⟩ := by
  obtain ⟨c0, c1, c2, c3, c4, c5, c6, c7⟩ := h
  constructor <;> simp [go_sem, *]
theorem Free.set {w : World} {b : Nat} (h : Free w b) (a : Addr) (v : Value) : Free (w.setCell a v) b := fun o s => by rw [World.frozen?_setCell]; exact h o s
theorem Free.set2 {w : World} {b : Nat} (h : Free w b) (c : Nat) (u v : Value) : Free ((w.setCell ⟨c, 0, none⟩ u).setCell ⟨c, 1, none⟩ v) b := (h.set _ _).set _ _
theorem Grew.cells {w W : World} (h : Grew w W) {b : Nat} (hb : b < w.heap.size) : ∀ o, W.cell? ⟨b, o, none⟩ = w.cell? ⟨b, o, none⟩ := fun _ => cell_of_heap (h.heap hb)
theorem Grew.marks {w W : World} (h : Grew w W) (b : Nat) : ∀ o, W.frozen? ⟨b, o, none⟩ = w.frozen? ⟨b, o, none⟩ := fun _ => h.grown.2.1 _
theorem set_far {a c : Nat} (h : c ≠ a) (V : World) (o o' : Nat) (v : Value) : (V.setCell ⟨a, o, none⟩ v).cell? ⟨c, o', none⟩ = V.cell? ⟨c, o', none⟩ := by
  refine cell_of_heap ?_
  simp only [World.setCell, Array.getElem?_modify]
  rw [if_neg (fun e => h e.symm)]
set_option maxHeartbeats 1000000 in
theorem bal1_any (c a b : Nat) (hab : a ≠ b) (hca : c ≠ a) (hcb : c ≠ b) (W : World) (hB : BAt W c balB) (hu : At W a 0 0) (hn : W.cell? ⟨b, 0, none⟩ = some (.int .i64 0)) (zu : Free W a) (zn : Free W b) :
    Calls Try.prog 20 #[.pointer (some ⟨c, 0, none⟩), .pointer (some ⟨a, 0, none⟩), .pointer (some ⟨b, 0, none⟩)] W fun e w' =>
      Wrote (fun n => n = a ∨ n = b) W w' ∧ ∃ x, (e = .returned (.tuple #[]) ∧ x = 0 ∨ e = .panicked [fault x]) ∧ (x = 0 ∧ At w' a 8589934592 0 ∧ w'.cell? ⟨b, 0, none⟩ = some (.int .i64 2147483648)) := by
  have HS : Hid (∀ W, Calls Try.prog 13 #[.agg #[.int .i64 1, .int .i64 4294967296, .int .i64 0, .int .i64 8589934592, .int .i64 0, .int .i64 0, .int .i64 17179869184, .int .i64 0]] W fun e w' => e = .returned (.agg #[.int .i64 8589934592, .int .i64 0]) ∧ Grew W w') := fun W => by
    have := shape_speed balB balB_ok W
    rw [balB_speed] at this
    exact this
  have HL : Hid (∀ W, Calls Try.prog 15 #[.agg #[.int .i64 1, .int .i64 4294967296, .int .i64 0, .int .i64 8589934592, .int .i64 0, .int .i64 0, .int .i64 17179869184, .int .i64 0]] W fun e w' => e = .returned (.int .i64 2147483648) ∧ Grew W w') := fun W => by
    have := shape_light balB balB_ok W
    rw [balB_light] at this
    exact this
  have sc := hB.size
  have sa := hu.size
  have sb := cell_block hn
  obtain ⟨b0, b1, b2, b3, b4, b5, b6, b7⟩ := hB
  simp only [balB] at b0 b1 b2 b3 b4 b5 b6 b7
  obtain ⟨u0, u1⟩ := hu
  have z0 := zu 0 none
  have z1 := zu 1 none
  have z2 := zn 0 none
  have f1 := set_far hca
  have f2 := set_far hcb
  have f3 := set_far hab.symm
  have f4 := set_far hab
  go_enter Try.func20, Try.ntmps20
  go_wp2_with (fail)
  go_region_held2 (fun w' => w'.cell? ⟨c, 0, none⟩ = some (.int .i64 1) ∧ w'.cell? ⟨c, 1, none⟩ = some (.int .i64 4294967296) ∧ w'.cell? ⟨c, 2, none⟩ = some (.int .i64 0) ∧ w'.cell? ⟨c, 3, none⟩ = some (.int .i64 8589934592) ∧ w'.cell? ⟨c, 4, none⟩ = some (.int .i64 0) ∧ w'.cell? ⟨c, 5, none⟩ = some (.int .i64 0) ∧ w'.cell? ⟨c, 6, none⟩ = some (.int .i64 17179869184) ∧ w'.cell? ⟨c, 7, none⟩ = some (.int .i64 0)) (go_keep)
    (first
    | (go_at_call 13; go_fit (HS.out _); rintro e V ⟨rfl, U⟩; have hs := U.size; simp at hs; have k1 := U.cells (b := c) (by first | omega | (simp; omega)); have k2 := U.cells (b := a) (by first | omega | (simp; omega)); have k3 := U.cells (b := b) (by first | omega | (simp; omega)); have k4 := U.marks a; have k5 := U.marks b)
    | (go_at_call 15; go_fit (HL.out _); rintro e V2 ⟨rfl, U2⟩; have k6 := U2.cells (b := c) (by first | omega | (simp; omega)); have k7 := U2.cells (b := a) (by first | omega | (simp; omega)); have k8 := U2.cells (b := b) (by first | omega | (simp; omega)); have k9 := U2.marks a; have k10 := U2.marks b))
  go_wp2
  go_end0
  have GV : Grew W V2 := ((Grew.refl W).drew.trans U).trans U2
  exact ⟨wrote_set2 GV.wrote a b (.inl rfl) (.inr rfl) _ _ _, 0, .inl ⟨rfl, rfl⟩, rfl, at_set2 V2 a b hab 0 0 _ _ _ _ ((show At W a 0 0 from ⟨u0, u1⟩).grew GV) (GV.cell hn)⟩

theorem name_crate (w : World) : Calls Try.prog 18 #[.int .i64 2] w fun e w' => e = .returned (.string ⟨#[99, 114, 97, 116, 101]⟩) ∧ w' = w := by
  go_enter Try.func18, Try.ntmps18
  go_wp2
  go_ret
  exact ⟨rfl, rfl⟩

set_option maxHeartbeats 400000 in
theorem alive_any (w : World) :
    Calls Try.prog 8 #[] w fun e w' => e = .returned (.bool true) ∧ Grew w w' := by
  have hmf := mk_func
  have HR : Hid (∀ W, Calls Try.prog 16 #[.agg #[.int .i64 1, .int .i64 4294967296, .int .i64 0, .int .i64 8589934592, .int .i64 0, .int .i64 0, .int .i64 17179869184, .int .i64 0]] W fun e w' => e = .returned (.bool true) ∧ Grew W w') := fun W => by
    have := shape_right balB W
    rw [balB_right] at this
    exact this
  have HZ : Hid (∀ W, Calls Try.prog 16 #[.agg #[.int .i64 0, .int .i64 0, .int .i64 0, .int .i64 0, .int .i64 0, .int .i64 0, .int .i64 0, .int .i64 0]] W fun e w' => e = .returned (.bool false) ∧ Grew W w') := fun W => by
    have := shape_right ⟨0, 0, 0, 0, 0, 0, 0, 0⟩ W
    rw [bal0_right] at this
    exact this
  go_enter Try.func8, Try.ntmps8
  go_wp2_with (fail)
  obtain ⟨W, hW⟩ : ∃ W, W = ((w.alloc (.cells #[.int .i64 1, .int .i64 4294967296, .int .i64 0, .int .i64 8589934592, .int .i64 0, .int .i64 0, .int .i64 17179869184, .int .i64 0] 26)).alloc (.cells #[.int .i64 0, .int .i64 0] 24)).alloc (.cells #[.int .i64 0] 22) := ⟨_, rfl⟩
  rw [← hW]
  have GW : Grew w W := by rw [hW]; exact (((Grew.refl w).alloc _ _).alloc _ _).alloc _ _
  have sz : W.heap.size = w.heap.size + 1 + 1 + 1 := by rw [hW]; simp [go_sem]
  have hB : BAt W w.heap.size balB := by rw [hW]; constructor <;> simp [go_sem, balB]
  have hv : At W (w.heap.size + 1) 0 0 := by rw [hW]; constructor <;> simp [go_sem]
  have hl : W.cell? ⟨w.heap.size + 1 + 1, 0, none⟩ = some (.int .i64 0) := by rw [hW]; simp [go_sem]
  clear hW
  generalize hX : w.heap.size = X at *
  refine (try_set (S := fun n => n = X + 1 ∨ n = X + 1 + 1) (P := fun x W => x = 0 ∧ At W (X + 1) 8589934592 0 ∧ W.cell? ⟨X + 1 + 1, 0, none⟩ = some (.int .i64 2147483648)) _ _ _ (fun _ => by simp [go_sem]) (fun n hn => by omega) ?_ ?_).mono ?_
  · rintro x W1 W2 hh ⟨h1, h2, h3⟩
    exact ⟨h1, h2.heap (hh _ (by omega)), by rw [cell_of_heap (hh _ (by simp; omega))]; exact h3⟩
  · intro W0 G
    exact bal1_any _ _ _ (by omega) (by omega) (by omega) W0 (hB.grew G) (hv.grew G) (G.cell hl) ((GW.trans G).freeB (by omega)) ((GW.trans G).freeB (by omega))
  rintro e V ⟨hW, x, rfl, rfl, ⟨c0, _⟩, c1⟩
  have G1 : Grew w V := hW.to GW (fun n hn => by omega)
  obtain ⟨b0, b1, b2, b3, b4, b5, b6, b7⟩ := hB.wrote hW (by omega)
  simp only [balB] at b0 b1 b2 b3 b4 b5 b6 b7
  clear hW hB hv hl sz GW
  go_wp2_with (first
    | (go_at_call 16; go_fit (HR.out _); rintro e V1 ⟨rfl, U1⟩; have d0 := U1.cell c0; have d1 := U1.cell c1)
    | (go_at_call 16; go_fit (HZ.out _); rintro e V2 ⟨rfl, U2⟩)
    | (go_at_call 18; go_fit (name_crate _); rintro e w' ⟨rfl, rfl⟩))
  go_ret
  exact ⟨rfl, (G1.trans U1).trans U2⟩
end Go.Proofs.Ythfecjmgmnjaoaa
