/-
  What package platter's Twin does at a platter that lies in memory: another one alike, in blocks of its own.
-/
import Derived.Test.YtedhgejkobdihaaTClone
import Derived.Deep.Cut
namespace Go.Proofs.Ytedhgejkobdihaa
open Go Go.RowKit

/-- What Twin leaves. -/
def Twinned (w : World) (P : Pl) (e : Ending) (w' : World) : Prop :=
  ∃ b g1 c1 g2 c2 a3 c3, e = .returned (.pointer (some ⟨b, 0, none⟩)) ∧ PAt w' w.heap.size b g1 c1 g2 c2 a3 c3 P ∧ Below w.heap.size w w'
section
variable {w : World} {base b g1 c1 g2 c2 c3 : Nat} {a3 : Option Addr} {P : Pl}
theorem row_some {w : World} {B n c k : Nat} {E : TypeId} {a : Option Addr} {xs : List Value} (h : w.ownsRow B E k (.slice a n c) n xs) (h0 : 0 < n) : ∃ g, a = some ⟨g, 0, none⟩ := by
  rcases h.2 with ⟨e, e0⟩ | ⟨g, cap, cur, e, _⟩
  · omega
  · cases e; exact ⟨g, rfl⟩
theorem twin_end (h : PAt w base b g1 c1 g2 c2 a3 c3 P) {V : World} {a1 a2 a4 : Option Addr} {d1 d2 d3 : Nat} (G : Below w.heap.size w V)
    (r1 : V.ownsRow w.heap.size 55 128 (.slice a1 P.now.length d1) P.now.length (pagesV P.now)) (r2 : V.ownsRow w.heap.size 55 128 (.slice a2 P.now.length d2) P.now.length (pagesV P.last))
    (r3 : V.ownsRow w.heap.size 57 129 (.slice a4 P.float.length d3) P.float.length (wrsV P.float)) (hap : ∀ x, (Value.slice a1 P.now.length d1).ownBlock = some x → (Value.slice a2 P.now.length d2).ownBlock ≠ some x) :
    Twinned w P (.returned (.pointer (some ⟨V.heap.size, 0, none⟩))) (V.alloc (.cells #[.slice a1 P.now.length d1, .slice a2 P.now.length d2, .slice a4 P.float.length d3, .int .i64 P.left, .bool P.dead] 50)) := by
  obtain ⟨x1, rfl⟩ := row_some r1 h.ok.pos
  obtain ⟨x2, rfl⟩ := row_some r2 h.ok.pos
  exact ⟨_, x1, d1, x2, d2, a4, d3, rfl, ⟨G.size, heap_alloc_new _ _, r1.alloc _, r2.alloc _, r3.alloc _, fun e => hap x1 rfl (by rw [e]; rfl), h.ok⟩, G.trans (Go.RowKit.Below.alloc (Below.refl _ _) G.size _)⟩
set_option maxRecDepth 10000 in
set_option maxHeartbeats 4000000 in
theorem twin_any (h : PAt w base b g1 c1 g2 c2 a3 c3 P) : Calls Try.prog 16 #[.pointer (some ⟨b, 0, none⟩)] w fun e w' => Twinned w P e w' := by
  have C1 : Hid (∀ X, PAt X base b g1 c1 g2 c2 a3 c3 P → Calls Try.prog 26 #[.slice (some ⟨g1, 0, none⟩) P.now.length c1] X fun e w' => (∃ v, e = .returned v ∧ w'.ownsRow X.heap.size 55 128 v P.now.length (pagesV P.now)) ∧ Below X.heap.size X w') := fun X hX => by
    obtain ⟨a, c, e, hr⟩ := own_reads hX.r1
    cases e
    exact clonep_any _ _ _ _ X hr (pages_size hX.ok.now) (pages_one _) (by have := hX.ok.top; omega)
  have C2 : Hid (∀ X, PAt X base b g1 c1 g2 c2 a3 c3 P → Calls Try.prog 26 #[.slice (some ⟨g2, 0, none⟩) P.now.length c2] X fun e w' => (∃ v, e = .returned v ∧ w'.ownsRow X.heap.size 55 128 v P.now.length (pagesV P.last)) ∧ Below X.heap.size X w') := fun X hX => by
    obtain ⟨a, c, e, hr⟩ := own_reads hX.r2
    cases e
    exact clonep_any _ _ _ _ X hr (by rw [pages_size hX.ok.last, hX.ok.len]) (pages_one _) (by have := hX.ok.top; omega)
  have C3 : Hid (∀ X, PAt X base b g1 c1 g2 c2 a3 c3 P → Calls Try.prog 27 #[.slice a3 P.float.length c3] X fun e w' => (∃ v, e = .returned v ∧ w'.ownsRow X.heap.size 57 129 v P.float.length (wrsV P.float)) ∧ Below X.heap.size X w') := fun X hX => by
    obtain ⟨a, c, e, hr⟩ := own_reads hX.r3
    cases e
    exact clonew_any _ _ _ _ X hr (wrs_size fun x hx => (hX.ok.float x hx).2) (wrs_one _) hX.ok.many (fun e => by
      rcases hX.r3.2 with ⟨_, e0⟩ | ⟨g, cap, cur, e', _⟩
      · exact e0
      · rw [e] at e'; cases e')
  go_enter Try.func16, Try.ntmps16
  go_upto_region 3 with (first | (go_at_call 24; go_fit (none_any h); rintro e w' ⟨rfl, e⟩; have e := e.symm; subst e))
  refine lat_region (A := (fun w' => PAt w' base b g1 c1 g2 c2 a3 c3 P)) (S := (fun _ => True)) [] (by kernel_rfl) ?_ (fun hH0 => ?_)
  · exact ⟨h.but (S := fun _ => False) (Grew.but (Grew.refl _).drew) (fun _ _ e => e), trivial⟩
  refine lat_free (i := 0) (oi := { dst := some 5, op := Go.Op.move (Go.Operand.tmp 0), type := 24, pos := "platter.go:134", after := #[], guard := none }) (v := ?va1) rfl (by kernel_rfl) (by kernel_rfl) (by kernel_rfl) (by kernel_rfl) (fun _ _ _ h => h) (Or.inl ⟨by rfl, ?hya1⟩) ⟨hH0.1, fun _ => hH0.2⟩ ?resta1
  case hya1 => (intro w hAw; have q0 := hAw.k0; have q1 := hAw.k1; have q2 := hAw.k2; have q3 := hAw.k3; have q4 := hAw.k4; clear hAw; go_simp; try (with_reducible rfl))
  simp only [Act.put, List.setIfInBounds_toArray, List.set_cons_zero, List.set_cons_succ]
  refine lat_free (i := 1) (oi := { dst := some 6, op := Go.Op.nilCheck (Go.Operand.tmp 5), type := 0, pos := "platter.go:134", after := #[{ on := 0, ground := Go.Ground.data }], guard := none }) (v := ?va2) rfl (by kernel_rfl) (by kernel_rfl) (by kernel_rfl) (by kernel_rfl) (fun _ _ _ h => h) (Or.inl ⟨by rfl, ?hya2⟩) ⟨hH0.1, fun _ => hH0.2⟩ ?resta2
  case hya2 => (intro w hAw; have q0 := hAw.k0; have q1 := hAw.k1; have q2 := hAw.k2; have q3 := hAw.k3; have q4 := hAw.k4; clear hAw; go_simp; try (with_reducible rfl))
  simp only [Act.put, List.setIfInBounds_toArray, List.set_cons_zero, List.set_cons_succ]
  refine lat_free (i := 2) (oi := { dst := some 7, op := Go.Op.fieldAddr 50 (Go.Operand.tmp 6) 0, type := 0, pos := "platter.go:134", after := #[{ on := 1, ground := Go.Ground.data }], guard := none }) (v := ?va3) rfl (by kernel_rfl) (by kernel_rfl) (by kernel_rfl) (by kernel_rfl) (fun _ _ _ h => h) (Or.inl ⟨by rfl, ?hya3⟩) ⟨hH0.1, fun _ => hH0.2⟩ ?resta3
  case hya3 => (intro w hAw; have q0 := hAw.k0; have q1 := hAw.k1; have q2 := hAw.k2; have q3 := hAw.k3; have q4 := hAw.k4; clear hAw; go_simp; try (with_reducible rfl))
  simp only [Act.put, List.setIfInBounds_toArray, List.set_cons_zero, List.set_cons_succ]
  refine lat_free (i := 3) (oi := { dst := some 8, op := Go.Op.load 47 (Go.Operand.tmp 7), type := 47, pos := "platter.go:134", after := #[{ on := 2, ground := Go.Ground.data }], guard := none }) (v := ?va4) rfl (by kernel_rfl) (by kernel_rfl) (by kernel_rfl) (by kernel_rfl) (fun _ _ _ h => h) (Or.inl ⟨by rfl, ?hya4⟩) ⟨hH0.1, fun _ => hH0.2⟩ ?resta4
  case hya4 => (intro w hAw; have q0 := hAw.k0; have q1 := hAw.k1; have q2 := hAw.k2; have q3 := hAw.k3; have q4 := hAw.k4; clear hAw; go_simp; try (with_reducible rfl))
  simp only [Act.put, List.setIfInBounds_toArray, List.set_cons_zero, List.set_cons_succ]
  refine lat_free (i := 5) (oi := { dst := some 10, op := Go.Op.move (Go.Operand.tmp 0), type := 24, pos := "platter.go:134", after := #[], guard := none }) (v := ?va5) rfl (by kernel_rfl) (by kernel_rfl) (by kernel_rfl) (by kernel_rfl) (fun _ _ _ h => h) (Or.inl ⟨by rfl, ?hya5⟩) ⟨hH0.1, fun _ => hH0.2⟩ ?resta5
  case hya5 => (intro w hAw; have q0 := hAw.k0; have q1 := hAw.k1; have q2 := hAw.k2; have q3 := hAw.k3; have q4 := hAw.k4; clear hAw; go_simp; try (with_reducible rfl))
  simp only [Act.put, List.setIfInBounds_toArray, List.set_cons_zero, List.set_cons_succ]
  refine lat_free (i := 6) (oi := { dst := some 11, op := Go.Op.nilCheck (Go.Operand.tmp 10), type := 0, pos := "platter.go:134", after := #[{ on := 5, ground := Go.Ground.data }], guard := none }) (v := ?va6) rfl (by kernel_rfl) (by kernel_rfl) (by kernel_rfl) (by kernel_rfl) (fun _ _ _ h => h) (Or.inl ⟨by rfl, ?hya6⟩) ⟨hH0.1, fun _ => hH0.2⟩ ?resta6
  case hya6 => (intro w hAw; have q0 := hAw.k0; have q1 := hAw.k1; have q2 := hAw.k2; have q3 := hAw.k3; have q4 := hAw.k4; clear hAw; go_simp; try (with_reducible rfl))
  simp only [Act.put, List.setIfInBounds_toArray, List.set_cons_zero, List.set_cons_succ]
  refine lat_free (i := 7) (oi := { dst := some 12, op := Go.Op.fieldAddr 50 (Go.Operand.tmp 11) 1, type := 0, pos := "platter.go:134", after := #[{ on := 6, ground := Go.Ground.data }], guard := none }) (v := ?va7) rfl (by kernel_rfl) (by kernel_rfl) (by kernel_rfl) (by kernel_rfl) (fun _ _ _ h => h) (Or.inl ⟨by rfl, ?hya7⟩) ⟨hH0.1, fun _ => hH0.2⟩ ?resta7
  case hya7 => (intro w hAw; have q0 := hAw.k0; have q1 := hAw.k1; have q2 := hAw.k2; have q3 := hAw.k3; have q4 := hAw.k4; clear hAw; go_simp; try (with_reducible rfl))
  simp only [Act.put, List.setIfInBounds_toArray, List.set_cons_zero, List.set_cons_succ]
  refine lat_free (i := 8) (oi := { dst := some 13, op := Go.Op.load 47 (Go.Operand.tmp 12), type := 47, pos := "platter.go:134", after := #[{ on := 7, ground := Go.Ground.data }], guard := none }) (v := ?va8) rfl (by kernel_rfl) (by kernel_rfl) (by kernel_rfl) (by kernel_rfl) (fun _ _ _ h => h) (Or.inl ⟨by rfl, ?hya8⟩) ⟨hH0.1, fun _ => hH0.2⟩ ?resta8
  case hya8 => (intro w hAw; have q0 := hAw.k0; have q1 := hAw.k1; have q2 := hAw.k2; have q3 := hAw.k3; have q4 := hAw.k4; clear hAw; go_simp; try (with_reducible rfl))
  simp only [Act.put, List.setIfInBounds_toArray, List.set_cons_zero, List.set_cons_succ]
  refine lat_free (i := 10) (oi := { dst := some 15, op := Go.Op.move (Go.Operand.tmp 0), type := 24, pos := "platter.go:134", after := #[], guard := none }) (v := ?va9) rfl (by kernel_rfl) (by kernel_rfl) (by kernel_rfl) (by kernel_rfl) (fun _ _ _ h => h) (Or.inl ⟨by rfl, ?hya9⟩) ⟨hH0.1, fun _ => hH0.2⟩ ?resta9
  case hya9 => (intro w hAw; have q0 := hAw.k0; have q1 := hAw.k1; have q2 := hAw.k2; have q3 := hAw.k3; have q4 := hAw.k4; clear hAw; go_simp; try (with_reducible rfl))
  simp only [Act.put, List.setIfInBounds_toArray, List.set_cons_zero, List.set_cons_succ]
  refine lat_free (i := 11) (oi := { dst := some 16, op := Go.Op.nilCheck (Go.Operand.tmp 15), type := 0, pos := "platter.go:134", after := #[{ on := 10, ground := Go.Ground.data }], guard := none }) (v := ?va10) rfl (by kernel_rfl) (by kernel_rfl) (by kernel_rfl) (by kernel_rfl) (fun _ _ _ h => h) (Or.inl ⟨by rfl, ?hya10⟩) ⟨hH0.1, fun _ => hH0.2⟩ ?resta10
  case hya10 => (intro w hAw; have q0 := hAw.k0; have q1 := hAw.k1; have q2 := hAw.k2; have q3 := hAw.k3; have q4 := hAw.k4; clear hAw; go_simp; try (with_reducible rfl))
  simp only [Act.put, List.setIfInBounds_toArray, List.set_cons_zero, List.set_cons_succ]
  refine lat_free (i := 12) (oi := { dst := some 17, op := Go.Op.fieldAddr 50 (Go.Operand.tmp 16) 2, type := 0, pos := "platter.go:134", after := #[{ on := 11, ground := Go.Ground.data }], guard := none }) (v := ?va11) rfl (by kernel_rfl) (by kernel_rfl) (by kernel_rfl) (by kernel_rfl) (fun _ _ _ h => h) (Or.inl ⟨by rfl, ?hya11⟩) ⟨hH0.1, fun _ => hH0.2⟩ ?resta11
  case hya11 => (intro w hAw; have q0 := hAw.k0; have q1 := hAw.k1; have q2 := hAw.k2; have q3 := hAw.k3; have q4 := hAw.k4; clear hAw; go_simp; try (with_reducible rfl))
  simp only [Act.put, List.setIfInBounds_toArray, List.set_cons_zero, List.set_cons_succ]
  refine lat_free (i := 13) (oi := { dst := some 18, op := Go.Op.load 48 (Go.Operand.tmp 17), type := 48, pos := "platter.go:134", after := #[{ on := 12, ground := Go.Ground.data }], guard := none }) (v := ?va12) rfl (by kernel_rfl) (by kernel_rfl) (by kernel_rfl) (by kernel_rfl) (fun _ _ _ h => h) (Or.inl ⟨by rfl, ?hya12⟩) ⟨hH0.1, fun _ => hH0.2⟩ ?resta12
  case hya12 => (intro w hAw; have q0 := hAw.k0; have q1 := hAw.k1; have q2 := hAw.k2; have q3 := hAw.k3; have q4 := hAw.k4; clear hAw; go_simp; try (with_reducible rfl))
  simp only [Act.put, List.setIfInBounds_toArray, List.set_cons_zero, List.set_cons_succ]
  refine lat_free (i := 15) (oi := { dst := some 20, op := Go.Op.move (Go.Operand.tmp 0), type := 24, pos := "platter.go:134", after := #[], guard := none }) (v := ?va13) rfl (by kernel_rfl) (by kernel_rfl) (by kernel_rfl) (by kernel_rfl) (fun _ _ _ h => h) (Or.inl ⟨by rfl, ?hya13⟩) ⟨hH0.1, fun _ => hH0.2⟩ ?resta13
  case hya13 => (intro w hAw; have q0 := hAw.k0; have q1 := hAw.k1; have q2 := hAw.k2; have q3 := hAw.k3; have q4 := hAw.k4; clear hAw; go_simp; try (with_reducible rfl))
  simp only [Act.put, List.setIfInBounds_toArray, List.set_cons_zero, List.set_cons_succ]
  refine lat_free (i := 16) (oi := { dst := some 21, op := Go.Op.nilCheck (Go.Operand.tmp 20), type := 0, pos := "platter.go:134", after := #[{ on := 15, ground := Go.Ground.data }], guard := none }) (v := ?va14) rfl (by kernel_rfl) (by kernel_rfl) (by kernel_rfl) (by kernel_rfl) (fun _ _ _ h => h) (Or.inl ⟨by rfl, ?hya14⟩) ⟨hH0.1, fun _ => hH0.2⟩ ?resta14
  case hya14 => (intro w hAw; have q0 := hAw.k0; have q1 := hAw.k1; have q2 := hAw.k2; have q3 := hAw.k3; have q4 := hAw.k4; clear hAw; go_simp; try (with_reducible rfl))
  simp only [Act.put, List.setIfInBounds_toArray, List.set_cons_zero, List.set_cons_succ]
  refine lat_free (i := 17) (oi := { dst := some 22, op := Go.Op.fieldAddr 50 (Go.Operand.tmp 21) 3, type := 0, pos := "platter.go:134", after := #[{ on := 16, ground := Go.Ground.data }], guard := none }) (v := ?va15) rfl (by kernel_rfl) (by kernel_rfl) (by kernel_rfl) (by kernel_rfl) (fun _ _ _ h => h) (Or.inl ⟨by rfl, ?hya15⟩) ⟨hH0.1, fun _ => hH0.2⟩ ?resta15
  case hya15 => (intro w hAw; have q0 := hAw.k0; have q1 := hAw.k1; have q2 := hAw.k2; have q3 := hAw.k3; have q4 := hAw.k4; clear hAw; go_simp; try (with_reducible rfl))
  simp only [Act.put, List.setIfInBounds_toArray, List.set_cons_zero, List.set_cons_succ]
  refine lat_free (i := 18) (oi := { dst := some 23, op := Go.Op.load 3 (Go.Operand.tmp 22), type := 3, pos := "platter.go:134", after := #[{ on := 17, ground := Go.Ground.data }], guard := none }) (v := ?va16) rfl (by kernel_rfl) (by kernel_rfl) (by kernel_rfl) (by kernel_rfl) (fun _ _ _ h => h) (Or.inl ⟨by rfl, ?hya16⟩) ⟨hH0.1, fun _ => hH0.2⟩ ?resta16
  case hya16 => (intro w hAw; have q0 := hAw.k0; have q1 := hAw.k1; have q2 := hAw.k2; have q3 := hAw.k3; have q4 := hAw.k4; clear hAw; go_simp; try (with_reducible rfl))
  simp only [Act.put, List.setIfInBounds_toArray, List.set_cons_zero, List.set_cons_succ]
  refine lat_free (i := 19) (oi := { dst := some 24, op := Go.Op.move (Go.Operand.tmp 0), type := 24, pos := "platter.go:134", after := #[], guard := none }) (v := ?va17) rfl (by kernel_rfl) (by kernel_rfl) (by kernel_rfl) (by kernel_rfl) (fun _ _ _ h => h) (Or.inl ⟨by rfl, ?hya17⟩) ⟨hH0.1, fun _ => hH0.2⟩ ?resta17
  case hya17 => (intro w hAw; have q0 := hAw.k0; have q1 := hAw.k1; have q2 := hAw.k2; have q3 := hAw.k3; have q4 := hAw.k4; clear hAw; go_simp; try (with_reducible rfl))
  simp only [Act.put, List.setIfInBounds_toArray, List.set_cons_zero, List.set_cons_succ]
  refine lat_free (i := 20) (oi := { dst := some 25, op := Go.Op.nilCheck (Go.Operand.tmp 24), type := 0, pos := "platter.go:134", after := #[{ on := 19, ground := Go.Ground.data }], guard := none }) (v := ?va18) rfl (by kernel_rfl) (by kernel_rfl) (by kernel_rfl) (by kernel_rfl) (fun _ _ _ h => h) (Or.inl ⟨by rfl, ?hya18⟩) ⟨hH0.1, fun _ => hH0.2⟩ ?resta18
  case hya18 => (intro w hAw; have q0 := hAw.k0; have q1 := hAw.k1; have q2 := hAw.k2; have q3 := hAw.k3; have q4 := hAw.k4; clear hAw; go_simp; try (with_reducible rfl))
  simp only [Act.put, List.setIfInBounds_toArray, List.set_cons_zero, List.set_cons_succ]
  refine lat_free (i := 21) (oi := { dst := some 26, op := Go.Op.fieldAddr 50 (Go.Operand.tmp 25) 4, type := 0, pos := "platter.go:134", after := #[{ on := 20, ground := Go.Ground.data }], guard := none }) (v := ?va19) rfl (by kernel_rfl) (by kernel_rfl) (by kernel_rfl) (by kernel_rfl) (fun _ _ _ h => h) (Or.inl ⟨by rfl, ?hya19⟩) ⟨hH0.1, fun _ => hH0.2⟩ ?resta19
  case hya19 => (intro w hAw; have q0 := hAw.k0; have q1 := hAw.k1; have q2 := hAw.k2; have q3 := hAw.k3; have q4 := hAw.k4; clear hAw; go_simp; try (with_reducible rfl))
  simp only [Act.put, List.setIfInBounds_toArray, List.set_cons_zero, List.set_cons_succ]
  refine lat_free (i := 22) (oi := { dst := some 27, op := Go.Op.load 4 (Go.Operand.tmp 26), type := 4, pos := "platter.go:134", after := #[{ on := 21, ground := Go.Ground.data }], guard := none }) (v := ?va20) rfl (by kernel_rfl) (by kernel_rfl) (by kernel_rfl) (by kernel_rfl) (fun _ _ _ h => h) (Or.inl ⟨by rfl, ?hya20⟩) ⟨hH0.1, fun _ => hH0.2⟩ ?resta20
  case hya20 => (intro w hAw; have q0 := hAw.k0; have q1 := hAw.k1; have q2 := hAw.k2; have q3 := hAw.k3; have q4 := hAw.k4; clear hAw; go_simp; try (with_reducible rfl))
  simp only [Act.put, List.setIfInBounds_toArray, List.set_cons_zero, List.set_cons_succ]
  refine lat_one (i := 4) (by kernel_rfl) ?_
  refine lat_run (o := { dst := some 9, op := Go.Op.call { callee := Go.Callee.value (Go.Operand.func 26), args := #[Go.Operand.tmp 8], argTypes := #[47] }, type := 47, pos := "platter.go:135", after := #[{ on := 3, ground := Go.Ground.data }], guard := none }) rfl (fun K hK => ?_)
  go_simp
  go_wp2_with (first
    | (go_at_call 26; go_fit (C1.out _ (hH0).1); rintro e V1 ⟨⟨v1, rfl, r1⟩, U1⟩; obtain ⟨a1, d1, rfl, _⟩ := own_reads r1)
    | fail)
  refine hK.out _ _ (⟨hH0.1.but (S := fun _ => False) (Go.Proofs.Ytedhgejkobdihaa.Below.but U1) (fun _ _ e => e), trivial⟩) (fun hHa21 => ?_)
  clear hK K
  refine lat_one (i := 9) (by kernel_rfl) ?_
  refine lat_run (o := { dst := some 14, op := Go.Op.call { callee := Go.Callee.value (Go.Operand.func 26), args := #[Go.Operand.tmp 13], argTypes := #[47] }, type := 47, pos := "platter.go:136", after := #[{ on := 8, ground := Go.Ground.data }, { on := 4, ground := Go.Ground.chain }], guard := none }) rfl (fun K hK => ?_)
  go_simp
  go_wp2_with (first
    | (go_at_call 26; go_fit (C2.out _ (hHa21).1); rintro e V1_2 ⟨⟨v2, rfl, r2⟩, U2⟩; obtain ⟨a2, d2, rfl, _⟩ := own_reads r2)
    | fail)
  refine hK.out _ _ (⟨hHa21.1.but (S := fun _ => False) (Go.Proofs.Ytedhgejkobdihaa.Below.but U2) (fun _ _ e => e), trivial⟩) (fun hHa22 => ?_)
  clear hK K
  refine lat_one (i := 14) (by kernel_rfl) ?_
  refine lat_run (o := { dst := some 19, op := Go.Op.call { callee := Go.Callee.value (Go.Operand.func 27), args := #[Go.Operand.tmp 18], argTypes := #[48] }, type := 48, pos := "platter.go:137", after := #[{ on := 13, ground := Go.Ground.data }, { on := 9, ground := Go.Ground.chain }], guard := none }) rfl (fun K hK => ?_)
  go_simp
  go_wp2_with (first
    | (go_at_call 27; go_fit (C3.out _ (hHa22).1); rintro e V1_2_3 ⟨⟨v3, rfl, r3⟩, U3⟩; obtain ⟨a3, d3, rfl, _⟩ := own_reads r3)
    | fail)
  refine hK.out _ _ (⟨hHa22.1.but (S := fun _ => False) (Go.Proofs.Ytedhgejkobdihaa.Below.but U3) (fun _ _ e => e), trivial⟩) (fun hHa23 => ?_)
  clear hK K
  refine lat_free (i := 23) (oi := { dst := some 28, op := Go.Op.build 50 #[(0, Go.Operand.tmp 9), (1, Go.Operand.tmp 14), (2, Go.Operand.tmp 19), (3, Go.Operand.tmp 23), (4, Go.Operand.tmp 27)], type := 50, pos := "platter.go:134", after := #[{ on := 4, ground := Go.Ground.data }, { on := 9, ground := Go.Ground.data }, { on := 14, ground := Go.Ground.data }, { on := 18, ground := Go.Ground.data }, { on := 22, ground := Go.Ground.data }], guard := none }) (v := ?va24) rfl (by kernel_rfl) (by kernel_rfl) (by kernel_rfl) (by kernel_rfl) (fun _ _ _ h => h) (Or.inl ⟨by rfl, ?hya24⟩) ⟨hHa23.1, fun _ => hHa23.2⟩ ?resta24
  case hya24 => (intro w hAw; have q0 := hAw.k0; have q1 := hAw.k1; have q2 := hAw.k2; have q3 := hAw.k3; have q4 := hAw.k4; clear hAw; go_simp; try (with_reducible rfl))
  simp only [Act.put, List.setIfInBounds_toArray, List.set_cons_zero, List.set_cons_succ]
  refine lat_one (i := 24) (by kernel_rfl) ?_
  refine lat_run (o := { dst := some 29, op := Go.Op.box 50 (Go.Operand.tmp 28), type := 24, pos := "platter.go:134", after := #[{ on := 23, ground := Go.Ground.data }], guard := none }) rfl (fun K hK => ?_)
  go_simp
  refine hK.out _ _ (⟨hHa23.1.but (S := fun _ => False) (Grew.but ((Grew.refl _).alloc _ _)) (fun _ _ e => e), trivial⟩) (fun hHa25 => ?_)
  clear hK K
  refine lat_free (i := 25) (oi := { dst := some 2, op := Go.Op.assign (Go.Operand.tmp 29), type := 24, pos := "platter.go:134", after := #[{ on := 24, ground := Go.Ground.data }, { on := 14, ground := Go.Ground.chain }, { on := 0, ground := Go.Ground.phase }, { on := 1, ground := Go.Ground.phase }, { on := 2, ground := Go.Ground.phase }, { on := 3, ground := Go.Ground.phase }, { on := 4, ground := Go.Ground.phase }, { on := 5, ground := Go.Ground.phase }, { on := 6, ground := Go.Ground.phase }, { on := 7, ground := Go.Ground.phase }, { on := 8, ground := Go.Ground.phase }, { on := 9, ground := Go.Ground.phase }, { on := 10, ground := Go.Ground.phase }, { on := 11, ground := Go.Ground.phase }, { on := 12, ground := Go.Ground.phase }, { on := 13, ground := Go.Ground.phase }, { on := 14, ground := Go.Ground.phase }, { on := 15, ground := Go.Ground.phase }, { on := 16, ground := Go.Ground.phase }, { on := 17, ground := Go.Ground.phase }, { on := 18, ground := Go.Ground.phase }, { on := 19, ground := Go.Ground.phase }, { on := 20, ground := Go.Ground.phase }, { on := 21, ground := Go.Ground.phase }, { on := 22, ground := Go.Ground.phase }, { on := 23, ground := Go.Ground.phase }, { on := 24, ground := Go.Ground.phase }], guard := none }) (v := ?va26) rfl (by kernel_rfl) (by kernel_rfl) (by kernel_rfl) (by kernel_rfl) (fun _ _ _ h => h) (Or.inl ⟨by rfl, ?hya26⟩) ⟨hHa25.1, fun _ => hHa25.2⟩ ?resta26
  case hya26 => (intro w hAw; have q0 := hAw.k0; have q1 := hAw.k1; have q2 := hAw.k2; have q3 := hAw.k3; have q4 := hAw.k4; clear hAw; go_simp; try (with_reducible rfl))
  simp only [Act.put, List.setIfInBounds_toArray, List.set_cons_zero, List.set_cons_succ]
  refine lat_done (by kernel_rfl) ?_ _
  go_wp2_with (fail)
  go_ret
  have Uj : Below V1.heap.size V1 V1_2 := U2
  have Uk : Below V1_2.heap.size V1_2 V1_2_3 := U3
  have Ui : Below w.heap.size w V1 := (Go.RowKit.Below.drew (Below.refl _ _)).trans U1
  have si := Ui.size
  have sj := Uj.size
  have sk := Uk.size
  have q1 := own_be (own_be r1 Uj) Uk
  have q2 := own_be r2 Uk
  have q3 := r3
  have q1 := row_base q1 (B' := w.heap.size) (by first | exact Nat.le_refl _ | omega)
  have q2 := row_base q2 (B' := w.heap.size) (by first | exact Nat.le_refl _ | omega)
  have q3 := row_base q3 (B' := w.heap.size) (by first | exact Nat.le_refl _ | omega)
  have hap : ∀ x, (Value.slice a1 P.now.length d1).ownBlock = some x → (Value.slice a2 P.now.length d2).ownBlock ≠ some x := by
    intro x hx hy
    have h1 := (r1.lt x hx).2
    have h2 := (r2.lt x hy).1
    have e1 : V1.heap.size ≤ V1.heap.size := by first | exact Nat.le_refl _ | assumption
    omega
  exact twin_end h (Ui.trans ((Uj.mono si).trans (Uk.mono (Nat.le_trans si sj)))) q1 q2 q3 hap
end
end Go.Proofs.Ytedhgejkobdihaa
