/-
  What world.advance does: the four parts of a step, one after another, or a panic of a Fault; the bodies' block alone is written of what was there.
-/
import Derived.Test.YtnkhknmpffcfbaaGreatSBounce
import Derived.Test.YtnkhknmpffcfbaaGreatSMove
import Derived.Test.YtnkhknmpffcfbaaGreatSRight
namespace Go.Proofs.YtnkhknmpffcfbaaGreat
open Go.RowKit

/-- A world that lies in a variable. -/
structure W4 (w : World) (q : Nat) (x y : Int) (a : Option Addr) (n c : Nat) (b : Option Addr) (m d : Nat) : Prop where
  c0 : w.cell? ⟨q, 0, none⟩ = some (.int .i64 x)
  c1 : w.cell? ⟨q, 1, none⟩ = some (.int .i64 y)
  c2 : w.cell? ⟨q, 2, none⟩ = some (.slice a n c)
  c3 : w.cell? ⟨q, 3, none⟩ = some (.slice b m d)
theorem W4.heap {w W : World} {q : Nat} {x y : Int} {a : Option Addr} {n c : Nat} {b : Option Addr} {m d : Nat} (k : W4 w q x y a n c b m d) (g : W.heap[q]? = w.heap[q]?) : W4 W q x y a n c b m d := by
  have e : ∀ o s, W.cell? ⟨q, o, s⟩ = w.cell? ⟨q, o, s⟩ := fun o s => cell_of_heap g
  exact ⟨(e _ _).trans k.c0, (e _ _).trans k.c1, (e _ _).trans k.c2, (e _ _).trans k.c3⟩
theorem W4.size {w : World} {q : Nat} {x y : Int} {a : Option Addr} {n c : Nat} {b : Option Addr} {m d : Nat} (k : W4 w q x y a n c b m d) : q < w.heap.size := cell_block k.c0
theorem W4.but {S : Nat → Prop} {w W : World} {q : Nat} {x y : Int} {a : Option Addr} {n c : Nat} {b : Option Addr} {m d : Nat} (k : W4 w q x y a n c b m d) (g : But S w W) (h : ¬ S q) : W4 W q x y a n c b m d := k.heap (g.block _ k.size h)
theorem Joints.but {S : Nat → Prop} {w W : World} {a : Option Addr} {J : List Jt} (h : Joints w a J) (g : But S w W) (hS : ∀ x off, a = some ⟨x, off, none⟩ → ¬ S x) : Joints W a J := by
  refine ⟨h.ok, ?_⟩
  rcases h.at' with e | ⟨b, off, e, k⟩
  · exact .inl e
  · exact .inr ⟨b, off, e, fun i hi => (k i hi).heap (g.block _ (k i hi).size (hS _ _ e))⟩

set_option maxRecDepth 10000 in
set_option maxHeartbeats 4000000 in
theorem advance_any (x y : Int) (hx : inF x) (hy : inF y) (J : List Jt) (L : List Bd) (base : Nat) (a : Option Addr) (g c : Nat) (b : Option Addr) (d : Nat) (w : World) (hg : g < w.heap.size) (hO : Own w base a g c L) (hJ : Joints w b J)
    (hne : ∀ z off, b = some ⟨z, off, none⟩ → z ≠ g) (hR : J.all (rightJ L.length) = true) (hn : L.length ≤ 500) (hm : J.length ≤ 1000) :
    Calls Tryz.prog 38 #[worldV x y a L.length c b J.length d] w fun e w' => Done base a g c (advE x y J L) w e w' := by
  obtain ⟨n, hl⟩ : ∃ n, L.length = n := ⟨_, rfl⟩
  have F1 : Hid (∀ W, Own W base a g c L → Calls Tryz.prog 53 #[.slice a n c, vec x y] W fun e w' => Done base a g c (fallsE x y L) W e w') := fun W h => by rw [← hl]; exact fall_any x y hx hy L base a g c W h (by omega)
  have F2 : Hid (∀ W C, C.length = n → Own W base a g c C → Joints W b J → Calls Tryz.prog 54 #[.slice a n c, .slice b J.length d] W fun e w' => Done base a g c (pullE J C) W e w') := fun W C e h k => by
    rw [← e]; exact pull_any J C base a g c b d W h k hne (by rw [e, ← hl]; exact hR) hm
  have F3 : Hid (∀ W C, C.length = n → Own W base a g c C → Calls Tryz.prog 55 #[.slice a n c] W fun e w' => Done base a g c (bounceE C) W e w') := fun W C e h => by
    rw [← e]; exact bounce_any C base a g c W h (by omega)
  have F4 : Hid (∀ W C, C.length = n → Own W base a g c C → Calls Tryz.prog 56 #[.slice a n c] W fun e w' => Done base a g c (movesE C) W e w') := fun W C e h => by
    rw [← e]; exact move_any C base a g c W h (by omega)
  have hE : advE x y J L = thenE (fallsE x y L) fun A => thenE (roundE J A) fun B => thenE (bounceE B) movesE := rfl
  have K1 : (fallsE x y L).2 = 0 → (fallsE x y L).1.length = n ∧ ∀ z ∈ (fallsE x y L).1, z.ok := fun h => by have := falls_keep hO.ok h; exact ⟨this.len.trans hl, this.ok⟩
  have R1 : ∀ C, roundE J C = upE (fun _ => pullE J) 4 0 C := fun _ => rfl
  have K2 : Hid (∀ C, C.length = n → (∀ z ∈ C, z.ok) → (pullE J C).2 = 0 → (pullE J C).1.length = n) := fun C e h g => (pull_keep (by rw [e, ← hl]; exact hR) h g).len.trans e
  have K3 : Hid (∀ C, C.length = n → (∀ z ∈ C, z.ok) → (bounceE C).2 = 0 → (bounceE C).1.length = n) := fun C e h g => (bounce_keep h g).len.trans e
  generalize fallsE x y L = A at *
  have HE : Hid (advE x y J L = _) := hE
  have hW : ∀ c', But (fun n => n = g) w (w.alloc (.cells c' 29)) := fun c' => (But.refl _ w).alloc _
  have HW : Hid (But (fun n => n = g) w (w.alloc (.cells #[.int .i64 x, .int .i64 y, .slice a n c, .slice b J.length d] 29))) := hW _
  have HO : Hid (∀ c', Own (w.alloc (.cells c' 29)) base a g c L) := fun c' => hO.grew ((Grew.refl w).alloc _ _)
  have HJ : Hid (∀ c', Joints (w.alloc (.cells c' 29)) b J) := fun c' => hJ.grew ((Grew.refl w).alloc _ _)
  clear hE hW hO hJ
  unfold worldV
  rw [hl]
  go_enter Tryz.func38, Tryz.ntmps38
  have hbox : W4 (w.alloc (.cells #[.int .i64 x, .int .i64 y, .slice a n c, .slice b J.length d] 29)) w.heap.size x y a n c b J.length d := by constructor <;> simp [go_sem]
  have HB : Hid _ := hbox
  clear hbox
  go_upto_region 2 with (first
    | (go_at_call 53; go_fit (F1.out _ (HO.out _)); rintro e V ⟨W1, (⟨h1, rfl, O1⟩ | ⟨h1, rfl⟩)⟩))
  rotate_left
  · exact ⟨rfl, HW.out.trans W1, .inr ⟨by rw [HE.out, thenE_no h1]; exact h1, by rw [HE.out, thenE_no h1]⟩⟩
  have hq : ¬ w.heap.size = g := by omega
  have hA := (K1 h1).1
  have HE2 : Hid (advE x y J L = thenE (roundE J A.1) fun B => thenE (bounceE B) movesE) := by show _ = _; rw [HE.out, thenE_ok h1]
  have hWV := HW.out.trans W1
  have hbV := HB.out.but W1 hq
  have hJV := (HJ.out _).but W1 hne
  obtain ⟨A1, k1⟩ := A
  simp only at hA HE2 O1
  clear HE K1 F1 HO HJ HB HW W1 h1
  go_wp2_with (fail)
  go_loopw [7] (fun i wr => ∃ (k : Nat) (C : List Bd), k ≤ 4 ∧ i = .int .i64 k ∧ C.length = n ∧ Own wr base a g c C ∧ Joints wr b J ∧ W4 wr w.heap.size x y a n c b J.length d ∧ Hid (roundE J A1 = upE (fun _ => pullE J) (4 - k) k C) ∧ But (fun n => n = g) w wr) (fun i _ => 4 - (intOf i).toNat)
  case atStart => exact ⟨0, A1, by omega, rfl, hA, O1, hJV, hbV, R1 A1, hWV⟩
  case round =>
    obtain ⟨k, C, hk, rfl, hC, hO, hJ, hb, HU, hW⟩ := hrel
    clear O1 hJV hbV hWV R1
    obtain ⟨c0, c1, c2, c3⟩ := hb
    have HB : Hid (∀ V, But (fun n => n = g) wr V → W4 V w.heap.size x y a n c b J.length d) := fun V h => (W4.mk c0 c1 c2 c3).but h hq
    by_cases hlt : k < 4
    · have hi : (k : Int) < 4 := by omega
      have HF : Hid (Calls Tryz.prog 54 #[.slice a n c, .slice b J.length d] wr fun e w' => Done base a g c (pullE J C) wr e w') := F2.out wr C hC hO hJ
      have HK : Hid ((pullE J C).2 = 0 → (pullE J C).1.length = n) := K2.out C hC hO.ok
      have HNo : Hid (¬ (pullE J C).2 = 0 → (advE x y J L) = ([], (pullE J C).2)) := fun h => by
        rw [HE2.out, HU.out, upE_no hlt h]
        exact if_neg h
      have HYes : Hid ((pullE J C).2 = 0 → roundE J A1 = upE (fun _ => pullE J) (4 - (k + 1)) (k + 1) (pullE J C).1) := fun h => by rw [HU.out, upE_ok hlt h]
      generalize pullE J C = T at *
      go_wp2_with (first
        | (go_at_call 54; go_fit HF.out; rintro e V2 ⟨W2, (⟨h2, rfl, O2⟩ | ⟨h2, rfl⟩)⟩))
      · refine ⟨⟨k + 1, T.1, by omega, rfl, HK.out h2, O2, hJ.but W2 hne, HB.out _ W2, HYes.out h2, hW.trans W2⟩, ?_⟩
        simp [intOf]; omega
      · exact ⟨rfl, hW.trans W2, .inr ⟨by rw [HNo.out h2]; exact h2, by rw [HNo.out h2]⟩⟩
    · have hi : ¬ (k : Int) < 4 := by omega
      obtain rfl : k = 4 := by omega
      have HE3 : Hid (advE x y J L = thenE (bounceE C) movesE) := by
        show _ = _
        rw [HE2.out, HU.out]; rfl
      have HF : Hid (Calls Tryz.prog 55 #[.slice a n c] wr fun e w' => Done base a g c (bounceE C) wr e w') := F3.out wr C hC hO
      have HK := K3.out C hC hO.ok
      generalize bounceE C = T at *
      go_wp2_with (first
        | (go_at_call 55; go_fit HF.out; rintro e V2 ⟨W2, (⟨h2, rfl, O2⟩ | ⟨h2, rfl⟩)⟩; (have ⟨d0, d1, d2, d3⟩ := HB.out _ W2))
        | (go_at_call 56; go_fit (F4.out V2 T.1 (HK h2) O2); rintro e V3 ⟨W3, (⟨h3, rfl, O3⟩ | ⟨h3, rfl⟩)⟩))
      · go_end0
        have hE : advE x y J L = movesE T.1 := by rw [HE3.out, thenE_ok h2]
        exact ⟨(hW.trans W2).trans W3, .inl ⟨by rw [hE]; exact h3, rfl, by rw [hE]; exact O3⟩⟩
      · have hE : advE x y J L = movesE T.1 := by rw [HE3.out, thenE_ok h2]
        exact ⟨rfl, (hW.trans W2).trans W3, .inr ⟨by rw [hE]; exact h3, by rw [hE]⟩⟩
      · have hE : advE x y J L = ([], T.2) := by rw [HE3.out, thenE_no h2]
        exact ⟨rfl, hW.trans W2, .inr ⟨by rw [hE]; exact h2, by rw [hE]⟩⟩
end Go.Proofs.YtnkhknmpffcfbaaGreat
