/-
  What world.advance does: the four parts of a step, one after another, or a panic of a Fault; the bodies' block alone is written of what was there. What world.copied does: the same world, its lists in memory of its own; nothing that was there is written. What world.Step does: the bodies behind a step, or its error; nothing that was there is written.
-/
import Derived.Test.YtcoooehcgbohgaaGreatPxSBounce
import Derived.Test.YtcoooehcgbohgaaGreatPk10
import Derived.Test.YtcoooehcgbohgaaGreatPk06
namespace Go.Proofs.YtcoooehcgbohgaaGreat
open Go.RowKit

/-- A world that lies in a variable. -/
structure W4 (w : World) (q : Nat) (x y : Int) (a : Option Addr) (n c : Nat) (b : Option Addr) (m d : Nat) : Prop where
  c0 : w.cell? ⟨q, 0, none⟩ = some (.int .i64 x)
  c1 : w.cell? ⟨q, 1, none⟩ = some (.int .i64 y)
  c2 : w.cell? ⟨q, 2, none⟩ = some (.slice a n c)
  c3 : w.cell? ⟨q, 3, none⟩ = some (.slice b m d)
theorem W4.heap {w W : World} {q : Nat} {x y : Int} {a : Option Addr} {n c : Nat} {b : Option Addr} {m d : Nat} (k : W4 w q x y a n c b m d) (g : W.heap[q]? = w.heap[q]?) : W4 W q x y a n c b m d := by
  have e : ∀ o s, W.cell? ⟨q, o, s⟩ = w.cell? ⟨q, o, s⟩ := fun o s => cell_of_heap g
  exact ⟨(e _ _).trans k.c0, (e _ _).trans k.c1, (e _ _).trans k.c2, (e _ _).trans k.c3⟩
theorem W4.size {w : World} {q : Nat} {x y : Int} {a : Option Addr} {n c : Nat} {b : Option Addr} {m d : Nat} (k : W4 w q x y a n c b m d) : q < w.heap.size := cell_block k.c0
theorem W4.but {S : Nat → Prop} {w W : World} {q : Nat} {x y : Int} {a : Option Addr} {n c : Nat} {b : Option Addr} {m d : Nat} (k : W4 w q x y a n c b m d) (g : But S w W) (h : ¬ S q) : W4 W q x y a n c b m d := k.heap (g.block _ k.size h)
theorem Joints.but {S : Nat → Prop} {w W : World} {a : Option Addr} {J : List Jt} (h : Joints w a J) (g : But S w W) (hS : ∀ x off, a = some ⟨x, off, none⟩ → ¬ S x) : Joints W a J := by
  refine ⟨h.ok, ?_⟩
  rcases h.at' with e | ⟨b, off, e, k⟩
  · exact .inl e
  · exact .inr ⟨b, off, e, fun i hi => (k i hi).heap (g.block _ (k i hi).size (hS _ _ e))⟩

set_option maxRecDepth 10000 in
set_option maxHeartbeats 4000000 in
theorem advance_any (x y : Int) (hx : inF x) (hy : inF y) (J : List Jt) (L : List Bd) (base : Nat) (a : Option Addr) (g c : Nat) (b : Option Addr) (d : Nat) (w : World) (hg : g < w.heap.size) (hO : Own w base a g c L) (hJ : Joints w b J)
    (hne : ∀ z off, b = some ⟨z, off, none⟩ → z ≠ g) (hR : J.all (rightJ L.length) = true) (hn : L.length ≤ 500) (hm : J.length ≤ 1000) :
    Calls Tryz.prog 26 #[worldV x y a L.length c b J.length d] w fun e w' => Done base a g c (advE x y J L) w e w' := by
  obtain ⟨n, hl⟩ : ∃ n, L.length = n := ⟨_, rfl⟩
  have F1 : Hid (∀ W, Own W base a g c L → Calls Tryz.prog 42 #[.slice a n c, vec x y] W fun e w' => Done base a g c (fallsE x y L) W e w') := fun W h => by rw [← hl]; exact fall_any x y hx hy L base a g c W h (by omega)
  have F2 : Hid (∀ W C, C.length = n → Own W base a g c C → Joints W b J → Calls Tryz.prog 43 #[.slice a n c, .slice b J.length d] W fun e w' => Done base a g c (pullE J C) W e w') := fun W C e h k => by
    rw [← e]; exact pull_any J C base a g c b d W h k hne (by rw [e, ← hl]; exact hR) hm
  have F3 : Hid (∀ W C, C.length = n → Own W base a g c C → Calls Tryz.prog 44 #[.slice a n c] W fun e w' => Done base a g c (bounceE C) W e w') := fun W C e h => by
    rw [← e]; exact bounce_any C base a g c W h (by omega)
  have F4 : Hid (∀ W C, C.length = n → Own W base a g c C → Calls Tryz.prog 45 #[.slice a n c] W fun e w' => Done base a g c (movesE C) W e w') := fun W C e h => by
    rw [← e]; exact move_any C base a g c W h (by omega)
  have hE : advE x y J L = thenE (fallsE x y L) fun A => thenE (roundE J A) fun B => thenE (bounceE B) movesE := rfl
  have K1 : (fallsE x y L).2 = 0 → (fallsE x y L).1.length = n ∧ ∀ z ∈ (fallsE x y L).1, z.ok := fun h => by have := falls_keep hO.ok h; exact ⟨this.len.trans hl, this.ok⟩
  have R1 : ∀ C, roundE J C = upE (fun _ => pullE J) 4 0 C := fun _ => rfl
  have K2 : Hid (∀ C, C.length = n → (∀ z ∈ C, z.ok) → (pullE J C).2 = 0 → (pullE J C).1.length = n) := fun C e h g => (pull_keep (by rw [e, ← hl]; exact hR) h g).len.trans e
  have K3 : Hid (∀ C, C.length = n → (∀ z ∈ C, z.ok) → (bounceE C).2 = 0 → (bounceE C).1.length = n) := fun C e h g => (bounce_keep h g).len.trans e
  generalize fallsE x y L = A at *
  have HE : Hid (advE x y J L = _) := hE
  have hW : ∀ c', But (fun n => n = g) w (w.alloc (.cells c' 39)) := fun c' => (But.refl _ w).alloc _
  have HW : Hid (But (fun n => n = g) w (w.alloc (.cells #[.int .i64 x, .int .i64 y, .slice a n c, .slice b J.length d] 39))) := hW _
  have HO : Hid (∀ c', Own (w.alloc (.cells c' 39)) base a g c L) := fun c' => hO.grew ((Grew.refl w).alloc _ _)
  have HJ : Hid (∀ c', Joints (w.alloc (.cells c' 39)) b J) := fun c' => hJ.grew ((Grew.refl w).alloc _ _)
  clear hE hW hO hJ
  unfold worldV
  rw [hl]
  go_enter Tryz.func26, Tryz.ntmps26
  have hbox : W4 (w.alloc (.cells #[.int .i64 x, .int .i64 y, .slice a n c, .slice b J.length d] 39)) w.heap.size x y a n c b J.length d := by constructor <;> simp [go_sem]
  have HB : Hid _ := hbox
  clear hbox
  go_upto_region 2 with (first
    | (go_at_call 42; go_fit (F1.out _ (HO.out _)); rintro e V ⟨W1, (⟨h1, rfl, O1⟩ | ⟨h1, rfl⟩)⟩))
  rotate_left
  · exact ⟨rfl, HW.out.trans W1, .inr ⟨by rw [HE.out, thenE_no h1]; exact h1, by rw [HE.out, thenE_no h1]⟩⟩
  have hq : ¬ w.heap.size = g := by omega
  have hA := (K1 h1).1
  have HE2 : Hid (advE x y J L = thenE (roundE J A.1) fun B => thenE (bounceE B) movesE) := by show _ = _; rw [HE.out, thenE_ok h1]
  have hWV := HW.out.trans W1
  have hbV := HB.out.but W1 hq
  have hJV := (HJ.out _).but W1 hne
  obtain ⟨A1, k1⟩ := A
  simp only at hA HE2 O1
  clear HE K1 F1 HO HJ HB HW W1 h1
  go_wp2_with (fail)
  go_loopw [7] (fun i wr => ∃ (k : Nat) (C : List Bd), k ≤ 4 ∧ i = .int .i64 k ∧ C.length = n ∧ Own wr base a g c C ∧ Joints wr b J ∧ W4 wr w.heap.size x y a n c b J.length d ∧ Hid (roundE J A1 = upE (fun _ => pullE J) (4 - k) k C) ∧ But (fun n => n = g) w wr) (fun i _ => 4 - (intOf i).toNat)
  case atStart => exact ⟨0, A1, by omega, rfl, hA, O1, hJV, hbV, R1 A1, hWV⟩
  case round =>
    obtain ⟨k, C, hk, rfl, hC, hO, hJ, hb, HU, hW⟩ := hrel
    clear O1 hJV hbV hWV R1
    obtain ⟨c0, c1, c2, c3⟩ := hb
    have HB : Hid (∀ V, But (fun n => n = g) wr V → W4 V w.heap.size x y a n c b J.length d) := fun V h => (W4.mk c0 c1 c2 c3).but h hq
    by_cases hlt : k < 4
    · have hi : (k : Int) < 4 := by omega
      have HF : Hid (Calls Tryz.prog 43 #[.slice a n c, .slice b J.length d] wr fun e w' => Done base a g c (pullE J C) wr e w') := F2.out wr C hC hO hJ
      have HK : Hid ((pullE J C).2 = 0 → (pullE J C).1.length = n) := K2.out C hC hO.ok
      have HNo : Hid (¬ (pullE J C).2 = 0 → (advE x y J L) = ([], (pullE J C).2)) := fun h => by
        rw [HE2.out, HU.out, upE_no hlt h]
        exact if_neg h
      have HYes : Hid ((pullE J C).2 = 0 → roundE J A1 = upE (fun _ => pullE J) (4 - (k + 1)) (k + 1) (pullE J C).1) := fun h => by rw [HU.out, upE_ok hlt h]
      generalize pullE J C = T at *
      go_wp2_with (first
        | (go_at_call 43; go_fit HF.out; rintro e V2 ⟨W2, (⟨h2, rfl, O2⟩ | ⟨h2, rfl⟩)⟩))
      · refine ⟨⟨k + 1, T.1, by omega, rfl, HK.out h2, O2, hJ.but W2 hne, HB.out _ W2, HYes.out h2, hW.trans W2⟩, ?_⟩
        simp [intOf]; omega
      · exact ⟨rfl, hW.trans W2, .inr ⟨by rw [HNo.out h2]; exact h2, by rw [HNo.out h2]⟩⟩
    · have hi : ¬ (k : Int) < 4 := by omega
      obtain rfl : k = 4 := by omega
      have HE3 : Hid (advE x y J L = thenE (bounceE C) movesE) := by
        show _ = _
        rw [HE2.out, HU.out]; rfl
      have HF : Hid (Calls Tryz.prog 44 #[.slice a n c] wr fun e w' => Done base a g c (bounceE C) wr e w') := F3.out wr C hC hO
      have HK := K3.out C hC hO.ok
      generalize bounceE C = T at *
      go_wp2_with (first
        | (go_at_call 44; go_fit HF.out; rintro e V2 ⟨W2, (⟨h2, rfl, O2⟩ | ⟨h2, rfl⟩)⟩; (have ⟨d0, d1, d2, d3⟩ := HB.out _ W2))
        | (go_at_call 45; go_fit (F4.out V2 T.1 (HK h2) O2); rintro e V3 ⟨W3, (⟨h3, rfl, O3⟩ | ⟨h3, rfl⟩)⟩))
      · go_end0
        have hE : advE x y J L = movesE T.1 := by rw [HE3.out, thenE_ok h2]
        exact ⟨(hW.trans W2).trans W3, .inl ⟨by rw [hE]; exact h3, rfl, by rw [hE]; exact O3⟩⟩
      · have hE : advE x y J L = movesE T.1 := by rw [HE3.out, thenE_ok h2]
        exact ⟨rfl, (hW.trans W2).trans W3, .inr ⟨by rw [hE]; exact h3, by rw [hE]⟩⟩
      · have hE : advE x y J L = ([], T.2) := by rw [HE3.out, thenE_no h2]
        exact ⟨rfl, hW.trans W2, .inr ⟨by rw [hE]; exact h2, by rw [hE]⟩⟩
end Go.Proofs.YtcoooehcgbohgaaGreat

namespace Go.Proofs.YtcoooehcgbohgaaGreat
open Go Go.RowKit

set_option maxRecDepth 10000 in
set_option maxHeartbeats 4000000 in
theorem copied_any (x y : Int) (L : List Bd) (J : List Jt) (a : Option Addr) (c : Nat) (b : Option Addr) (d : Nat) (w : World) (hL : Bodies w a L) (hJ : Joints w b J) (hn : L.length ≤ 1000) (hm : J.length ≤ 1000) :
    Calls Tryz.prog 23 #[worldV x y a L.length c b J.length d] w fun e w' => Below w.heap.size w w' ∧
      ∃ a' c' g b' d', e = .returned (worldV x y a' L.length c' b' J.length d') ∧ Own w' w.heap.size a' g c' L ∧ w.heap.size ≤ g ∧ g < w'.heap.size ∧ Joints w' b' J ∧ ∀ z off, b' = some ⟨z, off, none⟩ → z ≠ g ∧ w.heap.size ≤ z := by
  obtain ⟨n, en⟩ : ∃ n, L.length = n := ⟨_, rfl⟩
  obtain ⟨m, em⟩ : ∃ m, J.length = m := ⟨_, rfl⟩
  have CB : Hid (∀ W, Bodies W a L → Calls Tryz.prog 38 #[.slice a n c] W fun e w' => (∃ v, e = .returned v ∧ w'.ownsRow W.heap.size 28 8 v n (L.flatMap Bd.row)) ∧ Below W.heap.size W w') := fun W h => by rw [← en]; exact cloneb_any L a c W h hn
  have CJ : Hid (∀ W, Joints W b J → Calls Tryz.prog 39 #[.slice b m d] W fun e w' => (∃ v, e = .returned v ∧ w'.ownsRow W.heap.size 75 3 v m (J.flatMap Jt.row)) ∧ Below W.heap.size W w') := fun W h => by rw [← em]; exact clonej_any J b d W h hm
  have G0 : ∀ c' d', Below w.heap.size w ((w.alloc (.cells c' 39)).alloc (.cells d' 39)) := fun c' d' => Go.RowKit.Below.alloc (Go.RowKit.Below.alloc (Below.refl _ _) (Nat.le_refl _) _) (by simp) _
  have HG : Hid (∀ c' d', Below w.heap.size w ((w.alloc (.cells c' 39)).alloc (.cells d' 39))) := G0
  have HOK : Hid ((∀ z ∈ L, z.ok) ∧ ∀ z ∈ J, z.ok) := ⟨hL.ok, hJ.ok⟩
  have HL0 : Hid (∀ c' d', Bodies ((w.alloc (.cells c' 39)).alloc (.cells d' 39)) a L) := fun c' d' => hL.below (G0 c' d')
  have HJ0 : Hid (∀ c' d', Joints ((w.alloc (.cells c' 39)).alloc (.cells d' 39)) b J) := fun c' d' => hJ.below (G0 c' d')
  clear hL hJ G0
  unfold worldV
  rw [en, em]
  go_enter Tryz.func23, Tryz.ntmps23
  go_upto_region 1 with (fail)
  obtain ⟨V, hV⟩ : ∃ V, V = (w.alloc (.cells #[.int .i64 x, .int .i64 y, .slice a n c, .slice b m d] 39)).alloc (.cells #[.int .i64 0, .int .i64 0, .slice none 0 0, .slice none 0 0] 39) := ⟨_, rfl⟩
  rw [← hV]
  obtain ⟨q, hq⟩ : ∃ q, w.heap.size = q := ⟨_, rfl⟩
  rw [hq]
  have hb : W4 V q x y a n c b m d := by rw [hV, ← hq]; constructor <;> simp [go_sem]
  have hk0 : V.cell? ⟨q + 1, 0, none⟩ = some (.int .i64 0) := by rw [hV, ← hq]; simp [go_sem]
  have hk1 : V.cell? ⟨q + 1, 1, none⟩ = some (.int .i64 0) := by rw [hV, ← hq]; simp [go_sem]
  have hk2 : V.cell? ⟨q + 1, 2, none⟩ = some (.slice none 0 0) := by rw [hV, ← hq]; simp [go_sem]
  have hk3 : V.cell? ⟨q + 1, 3, none⟩ = some (.slice none 0 0) := by rw [hV, ← hq]; simp [go_sem]
  have hz : ∀ o, V.frozen? ⟨q + 1, o, none⟩ = false := fun o => by rw [hV, ← hq]; simp [go_sem]
  have HV : Hid (Below q w V) := by rw [hV, ← hq]; exact HG.out _ _
  have HL : Hid (Bodies V.drew a L) := by rw [hV]; exact (HL0.out _ _).below (Go.RowKit.Below.drew (Below.refl _ _))
  have HJ : Hid (Joints V.drew b J) := by rw [hV]; exact (HJ0.out _ _).below (Go.RowKit.Below.drew (Below.refl _ _))
  have hVs : V.heap.size = q + 1 + 1 := by rw [hV, ← hq]; simp
  have HS : Hid (V.heap.size = q + 1 + 1) := hVs
  have hVq : q + 1 < V.heap.size := by omega
  clear hV HG HL0 HJ0 hVs
  refine lat_region (A := (fun w' => W4 w' q x y a n c b m d)) (S := (fun _ => True)) [] (by kernel_rfl) ?_ (fun hH0 => ?_)
  · exact ⟨hb.heap rfl, trivial⟩
  refine lat_free (i := 0) (oi := { dst := some 3, op := Go.Op.fieldAddr 39 (Go.Operand.tmp 1) 0, type := 0, pos := "world.go:94", after := #[], guard := none }) (v := ?va1) rfl (by kernel_rfl) (by kernel_rfl) (by kernel_rfl) (by kernel_rfl) (fun _ _ _ h => h) (Or.inl ⟨by rfl, ?hya1⟩) ⟨hH0.1, fun _ => hH0.2⟩ ?resta1
  case hya1 => (intro w hAw; obtain ⟨c0, c1, c2, c3⟩ := hAw; go_simp; try (with_reducible rfl))
  simp only [Act.put, List.setIfInBounds_toArray, List.set_cons_zero, List.set_cons_succ]
  refine lat_free (i := 1) (oi := { dst := some 4, op := Go.Op.load 26 (Go.Operand.tmp 3), type := 26, pos := "world.go:94", after := #[{ on := 0, ground := Go.Ground.data }], guard := none }) (v := ?va2) rfl (by kernel_rfl) (by kernel_rfl) (by kernel_rfl) (by kernel_rfl) (fun _ _ _ h => h) (Or.inl ⟨by rfl, ?hya2⟩) ⟨hH0.1, fun _ => hH0.2⟩ ?resta2
  case hya2 => (intro w hAw; obtain ⟨c0, c1, c2, c3⟩ := hAw; go_simp; try (with_reducible rfl))
  simp only [Act.put, List.setIfInBounds_toArray, List.set_cons_zero, List.set_cons_succ]
  refine lat_free (i := 2) (oi := { dst := some 5, op := Go.Op.fieldAddr 39 (Go.Operand.tmp 1) 1, type := 0, pos := "world.go:94", after := #[], guard := none }) (v := ?va3) rfl (by kernel_rfl) (by kernel_rfl) (by kernel_rfl) (by kernel_rfl) (fun _ _ _ h => h) (Or.inl ⟨by rfl, ?hya3⟩) ⟨hH0.1, fun _ => hH0.2⟩ ?resta3
  case hya3 => (intro w hAw; obtain ⟨c0, c1, c2, c3⟩ := hAw; go_simp; try (with_reducible rfl))
  simp only [Act.put, List.setIfInBounds_toArray, List.set_cons_zero, List.set_cons_succ]
  refine lat_free (i := 3) (oi := { dst := some 6, op := Go.Op.load 22 (Go.Operand.tmp 5), type := 22, pos := "world.go:94", after := #[{ on := 2, ground := Go.Ground.data }], guard := none }) (v := ?va4) rfl (by kernel_rfl) (by kernel_rfl) (by kernel_rfl) (by kernel_rfl) (fun _ _ _ h => h) (Or.inl ⟨by rfl, ?hya4⟩) ⟨hH0.1, fun _ => hH0.2⟩ ?resta4
  case hya4 => (intro w hAw; obtain ⟨c0, c1, c2, c3⟩ := hAw; go_simp; try (with_reducible rfl))
  simp only [Act.put, List.setIfInBounds_toArray, List.set_cons_zero, List.set_cons_succ]
  refine lat_free (i := 5) (oi := { dst := some 8, op := Go.Op.fieldAddr 39 (Go.Operand.tmp 1) 2, type := 0, pos := "world.go:94", after := #[], guard := none }) (v := ?va5) rfl (by kernel_rfl) (by kernel_rfl) (by kernel_rfl) (by kernel_rfl) (fun _ _ _ h => h) (Or.inl ⟨by rfl, ?hya5⟩) ⟨hH0.1, fun _ => hH0.2⟩ ?resta5
  case hya5 => (intro w hAw; obtain ⟨c0, c1, c2, c3⟩ := hAw; go_simp; try (with_reducible rfl))
  simp only [Act.put, List.setIfInBounds_toArray, List.set_cons_zero, List.set_cons_succ]
  refine lat_free (i := 6) (oi := { dst := some 9, op := Go.Op.load 37 (Go.Operand.tmp 8), type := 37, pos := "world.go:94", after := #[{ on := 5, ground := Go.Ground.data }], guard := none }) (v := ?va6) rfl (by kernel_rfl) (by kernel_rfl) (by kernel_rfl) (by kernel_rfl) (fun _ _ _ h => h) (Or.inl ⟨by rfl, ?hya6⟩) ⟨hH0.1, fun _ => hH0.2⟩ ?resta6
  case hya6 => (intro w hAw; obtain ⟨c0, c1, c2, c3⟩ := hAw; go_simp; try (with_reducible rfl))
  simp only [Act.put, List.setIfInBounds_toArray, List.set_cons_zero, List.set_cons_succ]
  refine lat_one (i := 4) (by kernel_rfl) ?_
  refine lat_run (o := { dst := some 7, op := Go.Op.call { callee := Go.Callee.value (Go.Operand.func 38), args := #[Go.Operand.tmp 6], argTypes := #[22] }, type := 22, pos := "world.go:94", after := #[{ on := 3, ground := Go.Ground.data }], guard := none }) rfl (fun K hK => ?_)
  go_simp
  go_wp2_with (first
    | (go_at_call 38; go_fit (CB.out _ (HL.out)); rintro e V1 ⟨⟨v1, rfl, r1⟩, U1⟩; obtain ⟨a1, d1, rfl, _⟩ := own_reads r1)
    | fail)
  refine hK.out _ _ (⟨hH0.1.heap (U1.block _ hH0.1.size), trivial⟩) (fun hHa7 => ?_)
  clear hK K
  refine lat_one (i := 7) (by kernel_rfl) ?_
  refine lat_run (o := { dst := some 10, op := Go.Op.call { callee := Go.Callee.value (Go.Operand.func 39), args := #[Go.Operand.tmp 9], argTypes := #[37] }, type := 37, pos := "world.go:94", after := #[{ on := 6, ground := Go.Ground.data }, { on := 4, ground := Go.Ground.chain }], guard := none }) rfl (fun K hK => ?_)
  go_simp
  go_wp2_with (first
    | (go_at_call 39; go_fit (CJ.out _ ((HJ.out).below U1)); rintro e V2 ⟨⟨v2, rfl, r2⟩, U2⟩; obtain ⟨a2, d2, rfl, _⟩ := own_reads r2)
    | fail)
  refine hK.out _ _ (⟨hHa7.1.heap (U2.block _ hHa7.1.size), trivial⟩) (fun hHa8 => ?_)
  clear hK K
  refine lat_free (i := 8) (oi := { dst := some 11, op := Go.Op.build 39 #[(0, Go.Operand.tmp 4), (1, Go.Operand.tmp 7), (2, Go.Operand.tmp 10)], type := 39, pos := "world.go:94", after := #[{ on := 1, ground := Go.Ground.data }, { on := 4, ground := Go.Ground.data }, { on := 7, ground := Go.Ground.data }], guard := none }) (v := ?va9) rfl (by kernel_rfl) (by kernel_rfl) (by kernel_rfl) (by kernel_rfl) (fun _ _ _ h => h) (Or.inl ⟨by rfl, ?hya9⟩) ⟨hHa8.1, fun _ => hHa8.2⟩ ?resta9
  case hya9 => (intro w hAw; obtain ⟨c0, c1, c2, c3⟩ := hAw; go_simp; try (with_reducible rfl))
  simp only [Act.put, List.setIfInBounds_toArray, List.set_cons_zero, List.set_cons_succ]
  refine lat_one (i := 9) (by kernel_rfl) ?_
  refine lat_run (o := { dst := none, op := Go.Op.store 39 (Go.Operand.tmp 2) (Go.Operand.tmp 11), type := 0, pos := "world.go:94", after := #[{ on := 8, ground := Go.Ground.data }, { on := 7, ground := Go.Ground.chain }, { on := 0, ground := Go.Ground.phase }, { on := 1, ground := Go.Ground.phase }, { on := 2, ground := Go.Ground.phase }, { on := 3, ground := Go.Ground.phase }, { on := 4, ground := Go.Ground.phase }, { on := 5, ground := Go.Ground.phase }, { on := 6, ground := Go.Ground.phase }, { on := 7, ground := Go.Ground.phase }, { on := 8, ground := Go.Ground.phase }], guard := none }) rfl (fun K hK => ?_)
  have UU : Below V.heap.size V.drew V2 := U1.trans (U2.mono U1.size)
  have k0 := UU.cell (p := ⟨q + 1, 0, none⟩) (by simp; omega)
  have k1 := UU.cell (p := ⟨q + 1, 1, none⟩) (by simp; omega)
  have k2 := UU.cell (p := ⟨q + 1, 2, none⟩) (by simp; omega)
  have k3 := UU.cell (p := ⟨q + 1, 3, none⟩) (by simp; omega)
  have z0 := (UU.frozen (p := ⟨q + 1, 0, none⟩) (by simp; omega)).trans (hz 0)
  have z1 := (UU.frozen (p := ⟨q + 1, 1, none⟩) (by simp; omega)).trans (hz 1)
  have z2 := (UU.frozen (p := ⟨q + 1, 2, none⟩) (by simp; omega)).trans (hz 2)
  have z3 := (UU.frozen (p := ⟨q + 1, 3, none⟩) (by simp; omega)).trans (hz 3)
  have k0 : V2.cell? ⟨q + 1, 0, none⟩ = some (.int .i64 0) := k0.trans hk0
  have k1 : V2.cell? ⟨q + 1, 1, none⟩ = some (.int .i64 0) := k1.trans hk1
  have k2 : V2.cell? ⟨q + 1, 2, none⟩ = some (.slice none 0 0) := k2.trans hk2
  have k3 : V2.cell? ⟨q + 1, 3, none⟩ = some (.slice none 0 0) := k3.trans hk3
  go_simp
  refine hK.out _ _ (⟨hHa8.1.heap (by rw [Below.heap_setCell _ _ _ _ (by simp), Below.heap_setCell _ _ _ _ (by simp), Below.heap_setCell _ _ _ _ (by simp), Below.heap_setCell _ _ _ _ (by simp)]), trivial⟩) (fun hHa10 => ?_)
  clear hK K
  refine lat_done (by kernel_rfl) ?_ _
  go_wp2_with (fail)
  have hs1 : V.heap.size ≤ V1.heap.size := U1.size
  have hs2 := U2.size
  obtain ⟨g, hO, hg1, hg2⟩ := own_of_row (d := q) r1 en HOK.out.1 (by omega)
  obtain ⟨hJ2, hz2⟩ := joints_of_row r2 em HOK.out.2
  obtain ⟨WF, hWF⟩ : ∃ X, X = (((V2.setCell ⟨q + 1, 0, none⟩ (.int .i64 x)).setCell ⟨q + 1, 1, none⟩ (.int .i64 y)).setCell ⟨q + 1, 2, none⟩ (.slice a1 n d1)).setCell ⟨q + 1, 3, none⟩ (.slice a2 m d2) := ⟨_, rfl⟩
  have hF : But (fun n => n = q + 1) V2 WF := by rw [hWF]; exact ((((But.refl (fun n => n = q + 1) V2).set (b := q + 1) rfl _ _ _).set (b := q + 1) rfl _ _ _).set (b := q + 1) rfl _ _ _).set (b := q + 1) rfl _ _ _
  have hg1 : g = q ∨ V.heap.size ≤ g := hg1
  have hVs := HS.out
  have hgq : g ≠ q + 1 := by omega
  have hO2 := ((hO.but (S := fun _ => False) (Go.Proofs.YtcoooehcgbohgaaGreat.Below.but U2) (fun e => e)).but hF (by omega)).base (base' := q) (by show q ≤ V.heap.size; omega)
  have hJ3 := hJ2.but hF (fun z off e => by have := hz2 z off e; omega)
  have hsz := hF.size
  have hB : Below q w WF := HV.out.trans ((Go.RowKit.Below.drew (Below.refl _ _)).trans ((UU.mono (by omega)).trans ⟨hF.os, hF.tape, hF.output, hF.size, fun k hk => hF.block k (by omega) (by omega)⟩))
  rw [← hWF]
  have f0 : WF.cell? ⟨q + 1, 0, none⟩ = some (.int .i64 x) := by rw [hWF]; simp [go_sem, k0]
  have f1 : WF.cell? ⟨q + 1, 1, none⟩ = some (.int .i64 y) := by rw [hWF]; simp [go_sem, k1]
  have f2 : WF.cell? ⟨q + 1, 2, none⟩ = some (.slice a1 n d1) := by rw [hWF]; simp [go_sem, k2]
  have f3 : WF.cell? ⟨q + 1, 3, none⟩ = some (.slice a2 m d2) := by rw [hWF]; simp [go_sem, k3]
  clear hWF
  simp [bodyPost, results, Tryz.results23, go_sem, f0, f1, f2, f3]
  rw [hq]
  exact ⟨hB, a1, d1, g, a2, ⟨⟨rfl, rfl⟩, rfl⟩, hO2, by omega, by omega, hJ3, fun z off e => by have := hz2 z off e; omega⟩
end Go.Proofs.YtcoooehcgbohgaaGreat

namespace Go.Proofs.YtcoooehcgbohgaaGreat
open Go Go.RowKit

theorem Own.heap {w W : World} {base : Nat} {a : Option Addr} {g cap : Nat} {L : List Bd} (h : Own w base a g cap L) (e : W.heap[g]? = w.heap[g]?) : Own W base a g cap L := by
  refine ⟨h.ok, ⟨h.row.1, ?_⟩, h.at'⟩
  rcases h.at' with ⟨rfl, hL⟩ | rfl
  · subst hL
    rcases h.row.2 with k | ⟨_, _, _, k, _⟩
    · exact .inl k
    · cases k
  · rcases h.row.2 with k | ⟨b, c, cur, k, hb, hg, r⟩
    · exact .inl k
    · have k2 := k
      simp only [Value.slice.injEq, Option.some.injEq, Addr.mk.injEq, and_true, true_and] at k2
      obtain ⟨rfl, rfl⟩ := k2
      exact .inr ⟨g, cap, cur, k, hb, e.trans hg, r⟩

theorem stepc_any (x y : Int) (hx : inF x) (hy : inF y) (J : List Jt) (L : List Bd) (base : Nat) (a : Option Addr) (g c : Nat) (b : Option Addr) (d q : Nat) (w : World) (hq : W4 w q x y a L.length c b J.length d) (hg : g < w.heap.size) (hO : Own w base a g c L) (hJ : Joints w b J)
    (hne : ∀ z off, b = some ⟨z, off, none⟩ → z ≠ g) (hR : J.all (rightJ L.length) = true) (hn : L.length ≤ 500) (hm : J.length ≤ 1000) :
    Calls Tryz.prog 25 #[.pointer (some ⟨q, 0, none⟩)] w fun e w' => Done base a g c (advE x y J L) w e w' := by
  have HF : Hid (Calls Tryz.prog 26 #[worldV x y a L.length c b J.length d] w fun e w' => Done base a g c (advE x y J L) w e w') := advance_any x y hx hy J L base a g c b d w hg hO hJ hne hR hn hm
  obtain ⟨c0, c1, c2, c3⟩ := hq
  clear hO hJ
  unfold worldV at HF
  go_enter Tryz.func25, Tryz.ntmps25
  go_wp2_with (first
    | (go_at_call 26; go_fit HF.out; rintro e V2 ⟨W2, (⟨h2, rfl, O2⟩ | ⟨h2, rfl⟩)⟩))
  · go_end0
    exact ⟨W2, .inl ⟨h2, rfl, O2⟩⟩
  · exact ⟨rfl, W2, .inr ⟨h2, rfl⟩⟩

theorem trystep_any (x y : Int) (hx : inF x) (hy : inF y) (J : List Jt) (L : List Bd) (base : Nat) (a : Option Addr) (g c : Nat) (b : Option Addr) (d q : Nat) (w : World) (hq : W4 w q x y a L.length c b J.length d) (hg : g < w.heap.size) (hO : Own w base a g c L) (hJ : Joints w b J)
    (hne : ∀ z off, b = some ⟨z, off, none⟩ → z ≠ g) (hR : J.all (rightJ L.length) = true) (hn : L.length ≤ 500) (hm : J.length ≤ 1000) :
    Calls Tryz.prog 24 #[.func (.func 25) #[] #[.pointer (some ⟨q, 0, none⟩)]] w fun e w' => But (fun n => n = g) w w' ∧ e = .returned (.int .i64 (advE x y J L).2) ∧ ((advE x y J L).2 = 0 → Own w' base a g c (advE x y J L).1) := by
  refine (try_but (S := fun n => n = g) (P := fun k W => k = (advE x y J L).2 ∧ (k = 0 → Own W base a g c (advE x y J L).1)) _ _ _ (fun _ => by simp [go_sem]) (fun n hn => by omega) ?_ ?_).mono ?_
  · rintro k W W' hh ⟨h1, h2⟩
    exact ⟨h1, fun e => (h2 e).heap (hh g hg)⟩
  · intro W0 G
    refine (stepc_any x y hx hy J L base a g c b d q W0 (hq.heap (G.heap hq.size)) (by have := G.size; omega) (hO.grew G) (hJ.grew G) hne hR hn hm).mono ?_
    rintro e w1 ⟨hW, (⟨h1, rfl, hO1⟩ | ⟨h1, rfl⟩)⟩
    · exact ⟨hW, 0, .inl ⟨rfl, rfl⟩, h1.symm, fun _ => hO1⟩
    · exact ⟨hW, _, .inr rfl, rfl, fun e => absurd e h1⟩
  · rintro e w' ⟨hW, k, rfl, rfl, hk⟩
    exact ⟨hW, rfl, hk⟩

theorem set4_at {V : World} {q : Nat} {u0 u1 u2 u3 : Value} (k0 : V.cell? ⟨q, 0, none⟩ = some u0) (k1 : V.cell? ⟨q, 1, none⟩ = some u1) (k2 : V.cell? ⟨q, 2, none⟩ = some u2) (k3 : V.cell? ⟨q, 3, none⟩ = some u3) (u v s t : Value) (WF : World)
    (h : WF = (((V.setCell ⟨q, 0, none⟩ u).setCell ⟨q, 1, none⟩ v).setCell ⟨q, 2, none⟩ s).setCell ⟨q, 3, none⟩ t) :
    WF.cell? ⟨q, 0, none⟩ = some u ∧ WF.cell? ⟨q, 1, none⟩ = some v ∧ WF.cell? ⟨q, 2, none⟩ = some s ∧ WF.cell? ⟨q, 3, none⟩ = some t ∧ But (fun n => n = q) V WF := by
  subst h
  refine ⟨by simp [go_sem, k0], by simp [go_sem, k1], by simp [go_sem, k2], by simp [go_sem, k3], ?_⟩
  exact ((((But.refl (fun n => n = q) V).set (b := q) rfl _ _ _).set (b := q) rfl _ _ _).set (b := q) rfl _ _ _).set (b := q) rfl _ _ _
theorem but_on {q B : Nat} {w V W : World} (h : Below B w V) (g : But (fun n => n = q) V W) (hq : B ≤ q) (hB : B ≤ V.heap.size) : Below B w W := h.trans (g.below (fun n e => by omega) hB)

/-- No world. -/
def noneV : Value := worldV 0 0 none 0 0 none 0 0
/-- How Step ends. -/
def StepTo (x y : Int) (L : List Bd) (J : List Jt) (w : World) (e : Ending) (w' : World) : Prop := Below w.heap.size w w' ∧
      (((stepE x y J L).2 = 0 ∧ ∃ a' c' b' d', e = .returned (.tuple #[worldV x y a' (stepE x y J L).1.length c' b' J.length d', .int .i64 0]) ∧ Bodies w' a' (stepE x y J L).1 ∧ Joints w' b' J ∧ (∀ z off, a' = some ⟨z, off, none⟩ → w.heap.size ≤ z) ∧ ∀ z off, b' = some ⟨z, off, none⟩ → w.heap.size ≤ z) ∨
       (¬ (stepE x y J L).2 = 0 ∧ e = .returned (.tuple #[noneV, .int .i64 (stepE x y J L).2])))
set_option maxRecDepth 10000 in
set_option maxHeartbeats 4000000 in
theorem step_any (x y : Int) (hx : inF x) (hy : inF y) (L : List Bd) (J : List Jt) (a : Option Addr) (c : Nat) (b : Option Addr) (d : Nat) (w : World) (hL : Bodies w a L) (hJ : Joints w b J) (hn : L.length ≤ 500) (hm : J.length ≤ 1000) :
    Calls Tryz.prog 9 #[worldV x y a L.length c b J.length d] w (StepTo x y L J w) := by
  suffices H : ∀ R : Ending → World → Prop, (∀ e w', StepTo x y L J w e w' → R e w') → Calls Tryz.prog 9 #[worldV x y a L.length c b J.length d] w R from H _ (fun _ _ h => h)
  intro R hRR
  have HRR : Hid (∀ e w', StepTo x y L J w e w' → R e w') := hRR
  have G0 : ∀ c' d', Grew w ((w.alloc (.cells c' 39)).alloc (.cells d' 39)) := fun c' d' => ((Grew.refl w).alloc _ _).alloc _ _
  have HG : Hid (∀ c' d', Grew w ((w.alloc (.cells c' 39)).alloc (.cells d' 39))) := G0
  have HR : Hid (∀ W, Grew w W → Calls Tryz.prog 22 #[worldV x y a L.length c b J.length d] W fun e w' => e = .returned (.bool (rightW x y L J)) ∧ Grew W w') := fun W g => right_any x y L J a c b d W (hL.grew g) (hJ.grew g) (by omega) hm
  have HC : Hid (∀ W, Grew w W → Calls Tryz.prog 23 #[worldV x y a L.length c b J.length d] W fun e w' => Below W.heap.size W w' ∧
      ∃ a' c' g b' d', e = .returned (worldV x y a' L.length c' b' J.length d') ∧ Own w' W.heap.size a' g c' L ∧ W.heap.size ≤ g ∧ g < w'.heap.size ∧ Joints w' b' J ∧ ∀ z off, b' = some ⟨z, off, none⟩ → z ≠ g ∧ W.heap.size ≤ z) := fun W g => copied_any x y L J a c b d W (hL.grew g) (hJ.grew g) (by omega) hm
  have hS : stepE x y J L = if rightW x y L J = true then thenE (advE x y J L) endE else ([], 9) := rfl
  have hjr : rightW x y L J = true → J.all (rightJ L.length) = true := fun h => (rightW_iff.1 h).2.1
  have hkeep : rightW x y L J = true → (advE x y J L).2 = 0 → (advE x y J L).1.length = L.length := fun h g => (adv_keep (hjr h) hL.ok g).len
  clear hL hJ G0 hRR
  obtain ⟨r, hr⟩ : ∃ r, rightW x y L J = r := ⟨_, rfl⟩
  rw [hr] at HR hS hjr hkeep
  clear hr
  obtain ⟨n, en⟩ : ∃ n, L.length = n := ⟨_, rfl⟩
  obtain ⟨m, em⟩ : ∃ m, J.length = m := ⟨_, rfl⟩
  cases r
  · have HS : Hid (stepE x y J L = ([], 9)) := hS
    unfold worldV at HR ⊢
    clear hS HC hjr hkeep
    rw [en, em] at HR ⊢
    go_enter Tryz.func9, Tryz.ntmps9
    go_wp2_with (first
      | (go_at_call 22; go_fit (HR.out _ (HG.out _ _)); rintro e V ⟨rfl, U⟩; (have k0 := U.cell (p := ⟨w.heap.size + 1, 0, none⟩) (v := .int .i64 0) (by simp [go_sem])); (have k1 := U.cell (p := ⟨w.heap.size + 1, 1, none⟩) (v := .int .i64 0) (by simp [go_sem])); (have k2 := U.cell (p := ⟨w.heap.size + 1, 2, none⟩) (v := .slice none 0 0) (by simp [go_sem])); (have k3 := U.cell (p := ⟨w.heap.size + 1, 3, none⟩) (v := .slice none 0 0) (by simp [go_sem])); (have z0 := U.frozen (p := ⟨w.heap.size + 1, 0, none⟩) (by simp [go_sem])); (have z1 := U.frozen (p := ⟨w.heap.size + 1, 1, none⟩) (by simp [go_sem])); (have z2 := U.frozen (p := ⟨w.heap.size + 1, 2, none⟩) (by simp [go_sem])); (have z3 := U.frozen (p := ⟨w.heap.size + 1, 3, none⟩) (by simp [go_sem]))))
    obtain ⟨WF, hWF⟩ : ∃ X, X = (((V.setCell ⟨w.heap.size + 1, 0, none⟩ (.int .i64 0)).setCell ⟨w.heap.size + 1, 1, none⟩ (.int .i64 0)).setCell ⟨w.heap.size + 1, 2, none⟩ (.slice none 0 0)).setCell ⟨w.heap.size + 1, 3, none⟩ (.slice none 0 0) := ⟨_, rfl⟩
    rw [← hWF]
    obtain ⟨f0, f1, f2, f3, hF⟩ := set4_at k0 k1 k2 k3 _ _ _ _ WF hWF
    have GV : Grew w V := (HG.out _ _).trans U
    have hB := but_on GV.below hF (by omega) GV.size
    clear hWF k0 k1 k2 k3 z0 z1 z2 z3 U
    simp [bodyPost, results, Tryz.results9, go_sem, f0, f1, f2, f3]
    exact HRR.out _ _ ⟨hB, .inr ⟨by rw [HS.out]; decide, by rw [HS.out]; rfl⟩⟩
  have hjr := hjr rfl
  have hkeep := hkeep rfl
  rw [if_pos rfl] at hS
  have HT : Hid (∀ (base : Nat) (a : Option Addr) (g c : Nat) (b : Option Addr) (d q : Nat) (W : World), W4 W q x y a n c b m d → g < W.heap.size → Own W base a g c L → Joints W b J → (∀ z off, b = some ⟨z, off, none⟩ → z ≠ g) →
      Calls Tryz.prog 24 #[.func (.func 25) #[] #[.pointer (some ⟨q, 0, none⟩)]] W fun e w' => But (fun n => n = g) W w' ∧ e = .returned (.int .i64 (advE x y J L).2) ∧ ((advE x y J L).2 = 0 → Own w' base a g c (advE x y J L).1)) := fun base a g c b d q W h1 h2 h3 h4 h5 => by
    subst en em
    exact trystep_any x y hx hy J L base a g c b d q W h1 h2 h3 h4 h5 hjr hn hm
  rw [en] at hkeep
  generalize advE x y J L = A at *
  have HS : Hid (stepE x y J L = thenE A endE) := hS
  have HK : Hid (A.2 = 0 → A.1.length = n) := hkeep
  have hmf := mk_func
  unfold worldV at HR HC ⊢
  rw [en, em] at HR HC ⊢
  clear hS hkeep hjr
  go_enter Tryz.func9, Tryz.ntmps9
  go_upto_region 4 with (first
    | (go_at_call 22; go_fit (HR.out _ (HG.out _ _)); rintro e V ⟨rfl, U⟩; (have k0 := U.cell (p := ⟨w.heap.size + 1, 0, none⟩) (v := .int .i64 0) (by simp [go_sem])); (have k1 := U.cell (p := ⟨w.heap.size + 1, 1, none⟩) (v := .int .i64 0) (by simp [go_sem])); (have k2 := U.cell (p := ⟨w.heap.size + 1, 2, none⟩) (v := .slice none 0 0) (by simp [go_sem])); (have k3 := U.cell (p := ⟨w.heap.size + 1, 3, none⟩) (v := .slice none 0 0) (by simp [go_sem])); (have z0 := U.frozen (p := ⟨w.heap.size + 1, 0, none⟩) (by simp [go_sem])); (have z1 := U.frozen (p := ⟨w.heap.size + 1, 1, none⟩) (by simp [go_sem])); (have z2 := U.frozen (p := ⟨w.heap.size + 1, 2, none⟩) (by simp [go_sem])); (have z3 := U.frozen (p := ⟨w.heap.size + 1, 3, none⟩) (by simp [go_sem])); (have b0 := U.cell (p := ⟨w.heap.size, 0, none⟩) (v := .int .i64 x) (by simp [go_sem])); (have b1 := U.cell (p := ⟨w.heap.size, 1, none⟩) (v := .int .i64 y) (by simp [go_sem])); (have b2 := U.cell (p := ⟨w.heap.size, 2, none⟩) (v := .slice a n c) (by simp [go_sem])); (have b3 := U.cell (p := ⟨w.heap.size, 3, none⟩) (v := .slice b m d) (by simp [go_sem])); (have GV : Hid (Grew w V) := (HG.out _ _).trans U))
    | (go_at_call 23; go_fit (HC.out _ GV.out); rintro e V2 ⟨U2, a2, c2, g, j2, d2, rfl, hO, hg1, hg2, hJ2, hz⟩))
  obtain ⟨s, hs⟩ : ∃ s, w.heap.size = s := ⟨_, rfl⟩
  rw [hs] at k0 k1 k2 k3 z0 z1 z2 z3 ⊢
  have hsV : s + 1 < V.heap.size := by have := U.size; simp at this; omega
  obtain ⟨V3, hV3⟩ : ∃ X, X = V2.alloc (.cells #[.int .i64 x, .int .i64 y, .slice a2 n c2, .slice j2 m d2] 39) := ⟨_, rfl⟩
  rw [← hV3]
  have G3 : Grew V2 V3 := by rw [hV3]; exact (Grew.refl V2).alloc _ _
  obtain ⟨q, hq⟩ : ∃ q, V2.heap.size = q := ⟨_, rfl⟩
  have hb4 : W4 V3 q x y a2 n c2 j2 m d2 := by rw [hV3, ← hq]; constructor <;> simp [go_sem]
  have hq3 : V3.heap.size = q + 1 := by rw [hV3, ← hq]; simp
  rw [hq] at hg2 ⊢
  have hBV : Hid (Below s w V3) := by
    rw [← hs]
    exact GV.out.below.trans ((U2.mono GV.out.size).trans (G3.below.mono (by have := GV.out.size; have := U2.size; omega)))
  have l0 : V3.cell? ⟨s + 1, 0, none⟩ = some (.int .i64 0) := G3.cell ((U2.cell (p := ⟨s + 1, 0, none⟩) hsV).trans k0)
  have l1 : V3.cell? ⟨s + 1, 1, none⟩ = some (.int .i64 0) := G3.cell ((U2.cell (p := ⟨s + 1, 1, none⟩) hsV).trans k1)
  have l2 : V3.cell? ⟨s + 1, 2, none⟩ = some (.slice none 0 0) := G3.cell ((U2.cell (p := ⟨s + 1, 2, none⟩) hsV).trans k2)
  have l3 : V3.cell? ⟨s + 1, 3, none⟩ = some (.slice none 0 0) := G3.cell ((U2.cell (p := ⟨s + 1, 3, none⟩) hsV).trans k3)
  have y0 : V3.frozen? ⟨s + 1, 0, none⟩ = false := G3.frozen ((U2.frozen (p := ⟨s + 1, 0, none⟩) hsV).trans z0)
  have y1 : V3.frozen? ⟨s + 1, 1, none⟩ = false := G3.frozen ((U2.frozen (p := ⟨s + 1, 1, none⟩) hsV).trans z1)
  have y2 : V3.frozen? ⟨s + 1, 2, none⟩ = false := G3.frozen ((U2.frozen (p := ⟨s + 1, 2, none⟩) hsV).trans z2)
  have y3 : V3.frozen? ⟨s + 1, 3, none⟩ = false := G3.frozen ((U2.frozen (p := ⟨s + 1, 3, none⟩) hsV).trans z3)
  have hsq : s + 1 < V3.heap.size := by have := U2.size; omega
  have hsg : ¬ s + 1 = g := by omega
  have hO3 := hO.grew G3
  have hJ3 := hJ2.grew G3
  have hz3 : ∀ z off, j2 = some ⟨z, off, none⟩ → z ≠ g := fun z off e => (hz z off e).1
  have hz5 : ∀ z off, j2 = some ⟨z, off, none⟩ → s ≤ z := fun z off e => by have := (hz z off e).2; omega
  have hz4 : ∀ z off, j2 = some ⟨z, off, none⟩ → ¬ z = s + 1 := fun z off e => by have := (hz z off e).2; omega
  have HTry : Hid (Calls Tryz.prog 24 #[.func (.func 25) #[] #[.pointer (some ⟨q, 0, none⟩)]] V3 fun e w' => But (fun n => n = g) V3 w' ∧ e = .returned (.int .i64 A.2) ∧ (A.2 = 0 → Own w' V.heap.size a2 g c2 A.1)) := HT.out _ _ _ _ _ _ _ V3 hb4 (by omega) hO3 hJ3 hz3
  clear hV3 hO hJ2 hz U U2 G3 HT HR HC HG GV k0 k1 k2 k3 z0 z1 z2 z3 b0 b1 b2 b3 hjr hkeep hq
  obtain ⟨A1, ka⟩ := A
  simp only at HTry HK
  by_cases hka : ka = 0
  rotate_left
  · have HE : Hid (stepE x y J L = ([], ka)) := by show _ = _; rw [HS.out, thenE_no hka]
    clear HK HS
    go_wp2_with (first
      | (go_at_call 24; go_fit HTry.out; rintro e V4 ⟨W4', rfl, _⟩; (have k0 := W4'.cell l0 hsg); (have k1 := W4'.cell l1 hsg); (have k2 := W4'.cell l2 hsg); (have k3 := W4'.cell l3 hsg); (have z0 := W4'.frozen hsq hsg y0); (have z1 := W4'.frozen hsq hsg y1); (have z2 := W4'.frozen hsq hsg y2); (have z3 := W4'.frozen hsq hsg y3)))
    obtain ⟨WF, hWF⟩ : ∃ X, X = (((V4.setCell ⟨s + 1, 0, none⟩ (.int .i64 0)).setCell ⟨s + 1, 1, none⟩ (.int .i64 0)).setCell ⟨s + 1, 2, none⟩ (.slice none 0 0)).setCell ⟨s + 1, 3, none⟩ (.slice none 0 0) := ⟨_, rfl⟩
    rw [← hWF]
    obtain ⟨f0, f1, f2, f3, hF⟩ := set4_at k0 k1 k2 k3 _ _ _ _ WF hWF
    clear hWF k0 k1 k2 k3 z0 z1 z2 z3
    have hB := but_on (hBV.out.trans (W4'.below (fun n e => by omega) (by omega))) hF (by omega) (by have := W4'.size; omega)
    simp [bodyPost, results, Tryz.results9, go_sem, f0, f1, f2, f3]
    exact HRR.out _ _ ⟨by rw [hs]; exact hB, .inr ⟨by rw [HE.out]; exact hka, by rw [HE.out]; rfl⟩⟩
  subst hka
  have hA1 := HK.out rfl
  have HE : Hid (stepE x y J L = if A1.all rightB = true then (A1, 0) else ([], 3)) := by show _ = _; rw [HS.out]; rfl
  have HB : Hid (∀ W, Own W V.heap.size a2 g c2 A1 → Calls Tryz.prog 27 #[.slice a2 n c2] W fun e w' => e = .returned (.bool (A1.all rightB)) ∧ Grew W w') := fun W h => by
    rw [← hA1]; exact rightbodies_any A1 a2 c2 W h.bodies (by omega)
  clear HK HS
  generalize A1.all rightB = r at *
  cases r
  · go_wp2_with (first
      | (go_at_call 24; go_fit HTry.out; rintro e V4 ⟨W4', rfl, hO0⟩; (have hO4 : Own V4 V.heap.size a2 g c2 A1 := hO0 rfl); clear hO0; (have hb5 := hb4.but W4' (by omega)); (have ⟨e0, e1, e2, e3⟩ := hb5))
      | (go_at_call 27; go_fit (HB.out _ hO4); rintro e V5 ⟨rfl, U5⟩; (have k0 := U5.cell (W4'.cell l0 hsg)); (have k1 := U5.cell (W4'.cell l1 hsg)); (have k2 := U5.cell (W4'.cell l2 hsg)); (have k3 := U5.cell (W4'.cell l3 hsg)); (have z0 := U5.frozen (W4'.frozen hsq hsg y0)); (have z1 := U5.frozen (W4'.frozen hsq hsg y1)); (have z2 := U5.frozen (W4'.frozen hsq hsg y2)); (have z3 := U5.frozen (W4'.frozen hsq hsg y3))))
    obtain ⟨WF, hWF⟩ : ∃ X, X = (((V5.setCell ⟨s + 1, 0, none⟩ (.int .i64 0)).setCell ⟨s + 1, 1, none⟩ (.int .i64 0)).setCell ⟨s + 1, 2, none⟩ (.slice none 0 0)).setCell ⟨s + 1, 3, none⟩ (.slice none 0 0) := ⟨_, rfl⟩
    rw [← hWF]
    obtain ⟨f0, f1, f2, f3, hF⟩ := set4_at k0 k1 k2 k3 _ _ _ _ WF hWF
    clear hWF k0 k1 k2 k3 z0 z1 z2 z3
    have hB4 := hBV.out.trans (W4'.below (fun n e => by omega) (by omega))
    have hB := but_on (hB4.trans (U5.below.mono (by have := W4'.size; omega))) hF (by omega) (by have := W4'.size; have := U5.size; omega)
    simp [bodyPost, results, Tryz.results9, go_sem, f0, f1, f2, f3]
    exact HRR.out _ _ ⟨by rw [hs]; exact hB, .inr ⟨by rw [HE.out]; show ¬ (3 : Int) = 0; decide, by rw [HE.out]; rfl⟩⟩
  go_wp2_with (first
    | (go_at_call 24; go_fit HTry.out; rintro e V4 ⟨W4', rfl, hO0⟩; (have hO4 : Own V4 V.heap.size a2 g c2 A1 := hO0 rfl); clear hO0; (have hb5 := hb4.but W4' (by omega)); (have ⟨e0, e1, e2, e3⟩ := hb5))
    | (go_at_call 27; go_fit (HB.out _ hO4); rintro e V5 ⟨rfl, U5⟩; (have ⟨i0, i1, i2, i3⟩ := hb5.heap (U5.heap hb5.size)); (have k0 := U5.cell (W4'.cell l0 hsg)); (have k1 := U5.cell (W4'.cell l1 hsg)); (have k2 := U5.cell (W4'.cell l2 hsg)); (have k3 := U5.cell (W4'.cell l3 hsg)); (have z0 := U5.frozen (W4'.frozen hsq hsg y0)); (have z1 := U5.frozen (W4'.frozen hsq hsg y1)); (have z2 := U5.frozen (W4'.frozen hsq hsg y2)); (have z3 := U5.frozen (W4'.frozen hsq hsg y3))))
  obtain ⟨WF, hWF⟩ : ∃ X, X = (((V5.setCell ⟨s + 1, 0, none⟩ (.int .i64 x)).setCell ⟨s + 1, 1, none⟩ (.int .i64 y)).setCell ⟨s + 1, 2, none⟩ (.slice a2 n c2)).setCell ⟨s + 1, 3, none⟩ (.slice j2 m d2) := ⟨_, rfl⟩
  rw [← hWF]
  obtain ⟨f0, f1, f2, f3, hF⟩ := set4_at k0 k1 k2 k3 _ _ _ _ WF hWF
  clear hWF k0 k1 k2 k3 z0 z1 z2 z3
  have hB4 := hBV.out.trans (W4'.below (fun n e => by omega) (by omega))
  have hB := but_on (hB4.trans (U5.below.mono (by have := W4'.size; omega))) hF (by omega) (by have := W4'.size; have := U5.size; omega)
  have hBd := ((hO4.grew U5).but hF (by omega)).bodies
  have hJt := ((hJ3.but W4' hz3).grew U5).but hF hz4
  have hE2 : stepE x y J L = (A1, 0) := HE.out
  simp [bodyPost, results, Tryz.results9, go_sem, f0, f1, f2, f3]
  exact HRR.out _ _ ⟨by rw [hs]; exact hB, .inl ⟨by rw [hE2], a2, c2, j2, d2, by rw [hE2, em, show ((A1, (0 : Int)) : List Bd × Int).1.length = n from hA1]; rfl, by rw [hE2]; exact hBd, hJt, fun z off e => (by rw [hs]; rcases hO4.at' with ⟨e1, _⟩ | e1 <;> rw [e1] at e <;> cases e; omega), by rw [hs]; exact hz5⟩⟩
end Go.Proofs.YtcoooehcgbohgaaGreat
