/-
  What world.bounce does: those that touch are parted, as the plain function says, or a panic of a Fault; the bodies' block alone is written of what was there.
-/
import Derived.Test.YtcoooehcgbohgaaGreatPk10
import Derived.Test.YtcoooehcgbohgaaGreatPk08
import Derived.Test.YtcoooehcgbohgaaGreatPxPPairs
import Derived.Test.YtcoooehcgbohgaaGreatPk05
import Derived.Test.YtcoooehcgbohgaaGreatPk09
namespace Go.Proofs.YtcoooehcgbohgaaGreat
open Go.RowKit

/-- Two numbers that lie in memory. -/
structure C2 (w : World) (q : Nat) (x y : Int) : Prop where
  c0 : w.cell? ⟨q, 0, none⟩ = some (.int .i64 x)
  c1 : w.cell? ⟨q, 1, none⟩ = some (.int .i64 y)
theorem C2.heap {w W : World} {q : Nat} {x y : Int} (k : C2 w q x y) (g : W.heap[q]? = w.heap[q]?) : C2 W q x y := by
  have e : ∀ o s, W.cell? ⟨q, o, s⟩ = w.cell? ⟨q, o, s⟩ := fun o s => cell_of_heap g
  exact ⟨(e _ _).trans k.c0, (e _ _).trans k.c1⟩
theorem C2.size {w : World} {q : Nat} {x y : Int} (k : C2 w q x y) : q < w.heap.size := cell_block k.c0
theorem C2.grew {w W : World} {q : Nat} {x y : Int} (k : C2 w q x y) (g : Grew w W) : C2 W q x y := k.heap (g.heap k.size)
theorem C2.lay {V : World} {q b : Nat} {x y : Int} (k : C2 V q x y) (h : q ≠ b) (o : Nat) (B : Bd) : C2 (layO V b o B) q x y := k.heap (lay_else h o B)
theorem HAt.layO {V : World} {q b : Nat} {h : Ht} (k : HAt V q h) (hq : q ≠ b) (o : Nat) (B : Bd) : HAt (layO V b o B) q h := k.heap (lay_else hq o B)
theorem set3_else {V : World} {b c : Nat} (h : c ≠ b) (u v z : Value) : (((V.setCell ⟨b, 0, none⟩ u).setCell ⟨b, 1, none⟩ v).setCell ⟨b, 2, none⟩ z).heap[c]? = V.heap[c]? := by
  rw [Below.heap_setCell _ _ _ _ h, Below.heap_setCell _ _ _ _ h, Below.heap_setCell _ _ _ _ h]
theorem C2.set3 {V : World} {q b : Nat} {x y : Int} (k : C2 V q x y) (h : q ≠ b) (u v z : Value) : C2 (((V.setCell ⟨b, 0, none⟩ u).setCell ⟨b, 1, none⟩ v).setCell ⟨b, 2, none⟩ z) q x y := k.heap (set3_else h u v z)
theorem BatO.set3 {V : World} {q b o : Nat} {B : Bd} (k : BatO V q o B) (h : q ≠ b) (u v z : Value) : BatO (((V.setCell ⟨b, 0, none⟩ u).setCell ⟨b, 1, none⟩ v).setCell ⟨b, 2, none⟩ z) q o B := k.heap (set3_else h u v z)
theorem pr_get {P : List (Nat × Nat)} {k : Nat} (h : k < P.length) : P[k]? = some (pr P k) := by simp [pr, List.getD, h]
theorem own_prs {w : World} {B n : Nat} {E : TypeId} {v : Value} {xs : List Value} (h : w.ownsRow B E 2 v n xs) : ∃ a cap, v = .slice a n cap ∧ (n = 0 ∨ ∃ g, a = some ⟨g, 0, none⟩ ∧ B ≤ g) := by
  rcases h.2 with ⟨rfl, h0⟩ | ⟨g, cap, cur, rfl, hb, _⟩
  · exact ⟨none, 0, by rw [h0], .inl h0⟩
  · exact ⟨_, cap, rfl, .inr ⟨g, rfl, hb⟩⟩

set_option maxRecDepth 10000 in
set_option maxHeartbeats 16000000 in
theorem bounce_any (L : List Bd) (base : Nat) (a : Option Addr) (g cap : Nat) (w : World) (hO : Own w base a g cap L) (hn : L.length ≤ 500) :
    Calls Tryz.prog 44 #[.slice a L.length cap] w fun e w' => Done base a g cap (bounceE L) w e w' := by
  have cb := boxes_any L a cap w hO.bodies (by omega)
  have hE : bounceE L = if (boxE L).2 = 0 then upE (hitE (prs (boxE L).1)) (prs (boxE L).1).length 0 L else ([], (boxE L).2) := rfl
  have hb0 : (boxE L).2 = 0 → ∀ i, i < (prs (boxE L).1).length → (pr (prs (boxE L).1) i).1 < (pr (prs (boxE L).1) i).2 ∧ (pr (prs (boxE L).1) i).2 < (boxE L).1.length := fun _ i hi => by
    have := (prs_mem _ _).1 (List.mem_of_getElem? (pr_get hi))
    exact ⟨this.1, this.2.1⟩
  generalize boxE L = X at *
  obtain ⟨M, ke⟩ := X
  simp only at hE cb hb0
  by_cases hke : ke = 0
  rotate_left
  · rw [if_neg hke] at hE
    have HE : Hid (bounceE L = ([], ke)) := hE
    have CB : Hid (Calls Tryz.prog 60 #[.slice a L.length cap] w fun e w' => Below w.heap.size w w' ∧ e = .panicked [fault ke]) := cb.mono (by
      rintro e w' ⟨h, ⟨h0, _⟩ | ⟨_, rfl⟩⟩
      · exact absurd h0 hke
      · exact ⟨h, rfl⟩)
    clear cb hE
    go_enter Tryz.func44, Tryz.ntmps44
    go_wp2_with (first
      | (go_at_call 60; go_fit CB.out; rintro e V ⟨U, rfl⟩))
    exact ⟨rfl, Go.Proofs.YtcoooehcgbohgaaGreat.Below.but U, .inr ⟨by rw [HE.out]; exact hke, by rw [HE.out]⟩⟩
  subst hke
  rw [if_pos rfl] at hE
  have CB : Hid (Calls Tryz.prog 60 #[.slice a L.length cap] w fun e w' => ∃ j, e = .returned (.slice (some ⟨j, 0, none⟩) L.length L.length) ∧ Boxes w' (some ⟨j, 0, none⟩) M ∧ M.length = L.length ∧ Below w.heap.size w w') := cb.mono (by
    rintro e w' ⟨h, ⟨_, h1, j, rfl, h2⟩ | ⟨h0, _⟩⟩
    · exact ⟨j, rfl, h2, h1, h⟩
    · exact absurd rfl h0)
  have hb0 := hb0 rfl
  have CP : Hid (∀ j W, Boxes W (some ⟨j, 0, none⟩) M → M.length = L.length → Calls Tryz.prog 59 #[.slice (some ⟨j, 0, none⟩) L.length L.length] W fun e w' => (∃ v, e = .returned v ∧ w'.ownsRow W.heap.size 99 2 v (prs M).length ((prs M).flatMap encP)) ∧ Below W.heap.size W w') := fun j W h e => by
    rw [← e]
    exact pairs_any M _ _ W h (by omega)
  have hPn : M.length = L.length → (prs M).length ≤ 250000 := fun e => by
    have h1 := sweep_len (mt M) (List.range M.length)
    rw [List.length_range] at h1
    have h2 : M.length * M.length ≤ 500 * 500 := Nat.mul_le_mul (by omega) (by omega)
    unfold prs
    omega
  obtain ⟨P, hP⟩ : ∃ P, prs M = P := ⟨_, rfl⟩
  rw [hP] at hE CP hb0 hPn
  have HE : Hid (bounceE L = upE (hitE P) P.length 0 L) := hE
  have Hlt : Hid (∀ i, i < P.length → (pr P i).1 < (pr P i).2 ∧ (pr P i).2 < M.length) := hb0
  clear cb hE hb0 hP
  go_enter Tryz.func44, Tryz.ntmps44
  go_upto_region 1 with (first
    | (go_at_call 60; go_fit CB.out; rintro e V0 ⟨j, rfl, hX, hM, U0⟩)
    | (go_at_call 59; go_fit (CP.out _ _ hX hM); rintro e V ⟨⟨v, rfl, hv⟩, U⟩; obtain ⟨pa, pcap, rfl, hpa⟩ := own_prs hv))
  have hW0 : But (fun n => n = g) w V := (Go.Proofs.YtcoooehcgbohgaaGreat.Below.but U0).trans (Go.Proofs.YtcoooehcgbohgaaGreat.Below.but U)
  have hRow0 : V.ownsRow V0.heap.size 99 2 (.slice pa P.length pcap) P.length (P.flatMap encP) := hv
  have hO0 : Own V base a g cap L := ⟨hO.ok, row_but hO.row (Go.Proofs.YtcoooehcgbohgaaGreat.Below.but (S := fun _ => False) (U0.trans (U.mono U0.size))) (fun _ _ e => e), hO.at'⟩
  have hg0 : ∀ i, i < L.length → g < V0.heap.size := fun i hi => by have := (hO.lt hi).2; have := U0.size; omega
  have hPn := hPn hM
  clear hX U U0 hv hO CB CP
  go_loopw [10] (fun i wr => ∃ (k : Nat) (C : List Bd), k ≤ P.length ∧ i = .int .i64 k ∧ C.length = L.length ∧ Own wr base a g cap C ∧ Hid (bounceE L = upE (hitE P) (P.length - k) k C) ∧ But (fun n => n = g) w wr ∧ wr.ownsRow V0.heap.size 99 2 (.slice pa P.length pcap) P.length (P.flatMap encP)) (fun i _ => P.length - (intOf i).toNat)
  case atStart => exact ⟨0, L, by omega, rfl, rfl, hO0, HE.out, hW0, hRow0⟩
  case round =>
    obtain ⟨k, C, hk, rfl, hl, hO, HU, hW, hRow⟩ := hrel
    clear hO0 hW0 hRow0
    by_cases hlt : k < P.length
    · have hi : (k : Int) < (P.length : Int) := by omega
      obtain ⟨pg, rfl, hpg⟩ : ∃ pg, pa = some ⟨pg, 0, none⟩ ∧ V0.heap.size ≤ pg := hpa.resolve_left (by omega)
      obtain ⟨p12, p2⟩ := Hlt.out k hlt
      have pc : ∀ c, c < 2 → wr.cell? ⟨pg, k * 2 + c, none⟩ = (encP (pr P k))[c]? := fun c hc => by
        rw [hRow.cellAt _ (by omega), flat_at encP 2 (fun _ => rfl) P k _ (pr_get hlt) c hc]
      have p0 := pc 0 (by omega)
      have p1 := pc 1 (by omega)
      rw [Nat.add_zero] at p0
      have HSt : Hid (∀ x y, pr P k = (x, y) → ∀ B1 B2, bd C x = B1 → bd C y = B2 → hitE P k C = if (hitR B1 B2).2 = 0 then (if (hitR B1 B2).1.2 = true then pairE C x y (contactR B1 B2 (hitR B1 B2).1.1) else (C, 0)) else ([], (hitR B1 B2).2)) := fun x y e B1 B2 e1 e2 => by
        rw [← e1, ← e2]
        unfold hitE
        rw [e]
      have HNo : Hid (∀ e, (hitE P k C).2 = e → ¬ e = 0 → ¬ (bounceE L).2 = 0 ∧ Ending.panicked [fault e] = .panicked [fault (bounceE L).2]) := fun e he hz => by
        rw [HU.out, upE_no hlt (by rw [he]; exact hz), he]; exact ⟨hz, rfl⟩
      obtain ⟨xy, exy⟩ : ∃ xy, pr P k = xy := ⟨_, rfl⟩
      obtain ⟨x, y⟩ := xy
      rw [exy] at p12 p2 p0 p1
      have HSt := HSt.out x y exy
      simp only at p12 p2
      replace p0 : wr.cell? ⟨pg, k * 2, none⟩ = some (.int .i64 (x : Int)) := p0
      replace p1 : wr.cell? ⟨pg, k * 2 + 1, none⟩ = some (.int .i64 (y : Int)) := p1
      clear pc exy
      have hl1 : x < C.length := by omega
      have hl2 : y < C.length := by omega
      have h12 : x ≠ y := by omega
      have hj1 : (x : Int) < (L.length : Int) := by omega
      have hj2 : (y : Int) < (L.length : Int) := by omega
      obtain rfl := hO.got hl1
      have hgl := hg0 x (by omega)
      have ho1 := hO.ok _ (bd_mem hl1)
      have ho2 := hO.ok _ (bd_mem hl2)
      have hb1 := hO.cells hl1
      have hb2 := hO.cells hl2
      obtain ⟨B1, eB1⟩ : ∃ B, bd C x = B := ⟨_, rfl⟩
      obtain ⟨B2, eB2⟩ : ∃ B, bd C y = B := ⟨_, rfl⟩
      have HB2 : Hid (bd C y = B2) := eB2
      have HSt : Hid _ := HSt B1 B2 eB1 eB2
      rw [eB1] at ho1 hb1
      rw [eB2] at ho2 hb2
      clear eB1 eB2
      have C1 : Hid (∀ W, _) := fun W => waysH_of (t := hitR B1 B2) (touch_hit B1 B2 ho1 ho2 W)
      have hho := hitR_ok B1 B2
      have HS1 : Hid (¬ (hitR B1 B2).2 = 0 → (hitE P k C).2 = (hitR B1 B2).2) := fun h => by rw [HSt.out, if_neg h]
      have HS2 : Hid ((hitR B1 B2).2 = 0 → (hitR B1 B2).1.2 = false → hitE P k C = (C, 0)) := fun h g => by rw [HSt.out, if_pos h, if_neg (by rw [g]; decide)]
      have HS3 : Hid ((hitR B1 B2).2 = 0 → (hitR B1 B2).1.2 = true → hitE P k C = pairE C x y (contactR B1 B2 (hitR B1 B2).1.1)) := fun h g => by rw [HSt.out, if_pos h, if_pos g]
      clear HSt
      generalize hitR B1 B2 = H at *
      obtain ⟨⟨h, t⟩, hk2⟩ := H
      simp only at hho
      unfold Bd.val at C1
      have D1 : Hid (∀ W, _) := fun W => waysP_of (t := contactR B1 B2 h) (contact_any B1 B2 h ho1 ho2 hho W)
      have HP : Hid ((contactR B1 B2 h).1.1.ok ∧ (contactR B1 B2 h).1.2.ok) := contactR_ok ho1 ho2 h
      have HT1 : Hid (hk2 = 0 → t = true → ¬ (contactR B1 B2 h).2 = 0 → (hitE P k C).2 = (contactR B1 B2 h).2) := fun h1 h2 h3 => by rw [HS3.out h1 h2, pairE_no h3]
      have HT2 : Hid (hk2 = 0 → t = true → (contactR B1 B2 h).2 = 0 → hitE P k C = ((C.set x (contactR B1 B2 h).1.1).set y (contactR B1 B2 h).1.2, 0)) := fun h1 h2 h3 => by rw [HS3.out h1 h2, pairE_ok h3]
      clear HS3
      generalize contactR B1 B2 h = T at *
      unfold Bd.val at D1
      have hl2' : ∀ X : Bd, y < (C.set x X).length := fun X => by rw [List.length_set]; exact hl2
      have hl2' := hl2' T.1.1
      go_upto_region 3 with (fail)
      clear p0 p1
      obtain ⟨V, hV⟩ : ∃ V, V = wr.alloc (.cells #[.int .i64 x, .int .i64 y] 99) := ⟨_, rfl⟩
      rw [← hV]
      have GV : Grew wr V := by rw [hV]; exact (Grew.refl wr).alloc _ _
      obtain ⟨q, hq⟩ : ∃ q, wr.heap.size = q := ⟨_, rfl⟩
      have hc : C2 V q x y := by rw [hV, ← hq]; constructor <;> simp [go_sem]
      have hgw := (hO.lt hl1).2
      have hqg : q ≠ g := by omega
      have hqV : V.heap.size = q + 1 := by rw [hV, ← hq]; simp
      rw [hq]
      have hgV : g < V.heap.size := by omega
      clear hqV
      clear hV hq
      have hb1 := hb1.grew GV
      have hb2 := hb2.grew GV
      go_cut [4, 5] from 14 to 27 (fun v4 v5 wx => ∃ r, v4 = .pointer (some ⟨r, 0, none⟩) ∧ v5 = .bool t ∧ hk2 = 0 ∧ HAt wx r h ∧ r ≠ g ∧ Grew V wx)
      case first =>
        refine lat_region (A := (fun w' => C2 w' q x y ∧ BatO w' g (x * 8) B1 ∧ BatO w' g (y * 8) B2)) (S := (fun _ => True)) [] (by kernel_rfl) ?_ (fun hH0 => ?_)
        · exact ⟨⟨hc.grew (Grew.refl V).drew, hb1.grew (Grew.refl V).drew, hb2.grew (Grew.refl V).drew⟩, trivial⟩
        refine lat_free (i := 0) (oi := { dst := some 15, op := Go.Op.move (Go.Operand.tmp 0), type := 22, pos := "world.go:126", after := #[], guard := none }) (v := ?va1) rfl (by kernel_rfl) (by kernel_rfl) (by kernel_rfl) (by kernel_rfl) (fun _ _ _ h => h) (Or.inl ⟨by rfl, ?hya1⟩) ⟨hH0.1, fun _ => hH0.2⟩ ?resta1
        case hya1 => (intro w hAw; obtain ⟨⟨c0, c1⟩, ⟨b0, b1, b2, b3, b4, b5, b6, b7⟩, ⟨e0, e1, e2, e3, e4, e5, e6, e7⟩⟩ := hAw; go_simp; try (with_reducible rfl))
        simp only [Act.put, List.setIfInBounds_toArray, List.set_cons_zero, List.set_cons_succ]
        refine lat_free (i := 1) (oi := { dst := some 16, op := Go.Op.fieldAddr 99 (Go.Operand.tmp 3) 0, type := 0, pos := "world.go:126", after := #[], guard := none }) (v := ?va2) rfl (by kernel_rfl) (by kernel_rfl) (by kernel_rfl) (by kernel_rfl) (fun _ _ _ h => h) (Or.inl ⟨by rfl, ?hya2⟩) ⟨hH0.1, fun _ => hH0.2⟩ ?resta2
        case hya2 => (intro w hAw; obtain ⟨⟨c0, c1⟩, ⟨b0, b1, b2, b3, b4, b5, b6, b7⟩, ⟨e0, e1, e2, e3, e4, e5, e6, e7⟩⟩ := hAw; go_simp; try (with_reducible rfl))
        simp only [Act.put, List.setIfInBounds_toArray, List.set_cons_zero, List.set_cons_succ]
        refine lat_free (i := 2) (oi := { dst := some 17, op := Go.Op.load 3 (Go.Operand.tmp 16), type := 3, pos := "world.go:126", after := #[{ on := 1, ground := Go.Ground.data }], guard := none }) (v := ?va3) rfl (by kernel_rfl) (by kernel_rfl) (by kernel_rfl) (by kernel_rfl) (fun _ _ _ h => h) (Or.inl ⟨by rfl, ?hya3⟩) ⟨hH0.1, fun _ => hH0.2⟩ ?resta3
        case hya3 => (intro w hAw; obtain ⟨⟨c0, c1⟩, ⟨b0, b1, b2, b3, b4, b5, b6, b7⟩, ⟨e0, e1, e2, e3, e4, e5, e6, e7⟩⟩ := hAw; go_simp; try (with_reducible rfl))
        simp only [Act.put, List.setIfInBounds_toArray, List.set_cons_zero, List.set_cons_succ]
        refine lat_free (i := 3) (oi := { dst := some 18, op := Go.Op.indexAddr 22 (Go.Operand.tmp 15) (Go.Operand.tmp 17), type := 0, pos := "world.go:126", after := #[{ on := 0, ground := Go.Ground.data }, { on := 2, ground := Go.Ground.data }], guard := none }) (v := ?va4) rfl (by kernel_rfl) (by kernel_rfl) (by kernel_rfl) (by kernel_rfl) (fun _ _ _ h => h) (Or.inl ⟨by rfl, ?hya4⟩) ⟨hH0.1, fun _ => hH0.2⟩ ?resta4
        case hya4 => (intro w hAw; obtain ⟨⟨c0, c1⟩, ⟨b0, b1, b2, b3, b4, b5, b6, b7⟩, ⟨e0, e1, e2, e3, e4, e5, e6, e7⟩⟩ := hAw; go_simp; try (with_reducible rfl))
        simp only [Act.put, List.setIfInBounds_toArray, List.set_cons_zero, List.set_cons_succ]
        refine lat_free (i := 4) (oi := { dst := some 19, op := Go.Op.load 28 (Go.Operand.tmp 18), type := 28, pos := "world.go:126", after := #[{ on := 3, ground := Go.Ground.data }], guard := none }) (v := ?va5) rfl (by kernel_rfl) (by kernel_rfl) (by kernel_rfl) (by kernel_rfl) (fun _ _ _ h => h) (Or.inl ⟨by rfl, ?hya5⟩) ⟨hH0.1, fun _ => hH0.2⟩ ?resta5
        case hya5 => (intro w hAw; obtain ⟨⟨c0, c1⟩, ⟨b0, b1, b2, b3, b4, b5, b6, b7⟩, ⟨e0, e1, e2, e3, e4, e5, e6, e7⟩⟩ := hAw; go_simp; try (with_reducible rfl))
        simp only [Act.put, List.setIfInBounds_toArray, List.set_cons_zero, List.set_cons_succ]
        refine lat_free (i := 5) (oi := { dst := some 20, op := Go.Op.move (Go.Operand.tmp 0), type := 22, pos := "world.go:126", after := #[], guard := none }) (v := ?va6) rfl (by kernel_rfl) (by kernel_rfl) (by kernel_rfl) (by kernel_rfl) (fun _ _ _ h => h) (Or.inl ⟨by rfl, ?hya6⟩) ⟨hH0.1, fun _ => hH0.2⟩ ?resta6
        case hya6 => (intro w hAw; obtain ⟨⟨c0, c1⟩, ⟨b0, b1, b2, b3, b4, b5, b6, b7⟩, ⟨e0, e1, e2, e3, e4, e5, e6, e7⟩⟩ := hAw; go_simp; try (with_reducible rfl))
        simp only [Act.put, List.setIfInBounds_toArray, List.set_cons_zero, List.set_cons_succ]
        refine lat_free (i := 6) (oi := { dst := some 21, op := Go.Op.fieldAddr 99 (Go.Operand.tmp 3) 1, type := 0, pos := "world.go:126", after := #[], guard := none }) (v := ?va7) rfl (by kernel_rfl) (by kernel_rfl) (by kernel_rfl) (by kernel_rfl) (fun _ _ _ h => h) (Or.inl ⟨by rfl, ?hya7⟩) ⟨hH0.1, fun _ => hH0.2⟩ ?resta7
        case hya7 => (intro w hAw; obtain ⟨⟨c0, c1⟩, ⟨b0, b1, b2, b3, b4, b5, b6, b7⟩, ⟨e0, e1, e2, e3, e4, e5, e6, e7⟩⟩ := hAw; go_simp; try (with_reducible rfl))
        simp only [Act.put, List.setIfInBounds_toArray, List.set_cons_zero, List.set_cons_succ]
        refine lat_free (i := 7) (oi := { dst := some 22, op := Go.Op.load 3 (Go.Operand.tmp 21), type := 3, pos := "world.go:126", after := #[{ on := 6, ground := Go.Ground.data }], guard := none }) (v := ?va8) rfl (by kernel_rfl) (by kernel_rfl) (by kernel_rfl) (by kernel_rfl) (fun _ _ _ h => h) (Or.inl ⟨by rfl, ?hya8⟩) ⟨hH0.1, fun _ => hH0.2⟩ ?resta8
        case hya8 => (intro w hAw; obtain ⟨⟨c0, c1⟩, ⟨b0, b1, b2, b3, b4, b5, b6, b7⟩, ⟨e0, e1, e2, e3, e4, e5, e6, e7⟩⟩ := hAw; go_simp; try (with_reducible rfl))
        simp only [Act.put, List.setIfInBounds_toArray, List.set_cons_zero, List.set_cons_succ]
        refine lat_free (i := 8) (oi := { dst := some 23, op := Go.Op.indexAddr 22 (Go.Operand.tmp 20) (Go.Operand.tmp 22), type := 0, pos := "world.go:126", after := #[{ on := 5, ground := Go.Ground.data }, { on := 7, ground := Go.Ground.data }], guard := none }) (v := ?va9) rfl (by kernel_rfl) (by kernel_rfl) (by kernel_rfl) (by kernel_rfl) (fun _ _ _ h => h) (Or.inl ⟨by rfl, ?hya9⟩) ⟨hH0.1, fun _ => hH0.2⟩ ?resta9
        case hya9 => (intro w hAw; obtain ⟨⟨c0, c1⟩, ⟨b0, b1, b2, b3, b4, b5, b6, b7⟩, ⟨e0, e1, e2, e3, e4, e5, e6, e7⟩⟩ := hAw; go_simp; try (with_reducible rfl))
        simp only [Act.put, List.setIfInBounds_toArray, List.set_cons_zero, List.set_cons_succ]
        refine lat_free (i := 9) (oi := { dst := some 24, op := Go.Op.load 28 (Go.Operand.tmp 23), type := 28, pos := "world.go:126", after := #[{ on := 8, ground := Go.Ground.data }], guard := none }) (v := ?va10) rfl (by kernel_rfl) (by kernel_rfl) (by kernel_rfl) (by kernel_rfl) (fun _ _ _ h => h) (Or.inl ⟨by rfl, ?hya10⟩) ⟨hH0.1, fun _ => hH0.2⟩ ?resta10
        case hya10 => (intro w hAw; obtain ⟨⟨c0, c1⟩, ⟨b0, b1, b2, b3, b4, b5, b6, b7⟩, ⟨e0, e1, e2, e3, e4, e5, e6, e7⟩⟩ := hAw; go_simp; try (with_reducible rfl))
        simp only [Act.put, List.setIfInBounds_toArray, List.set_cons_zero, List.set_cons_succ]
        refine lat_two (i := 10) (k := 14) (by kernel_rfl) ?_ ?_
        · refine lat_run (o := { dst := some 25, op := Go.Op.call { callee := Go.Callee.value (Go.Operand.func 61), args := #[Go.Operand.tmp 19, Go.Operand.tmp 24], argTypes := #[28, 28] }, type := 35, pos := "world.go:126", after := #[{ on := 4, ground := Go.Ground.data }, { on := 9, ground := Go.Ground.data }], guard := none }) rfl (fun K hK => ?_)
          go_simp
          go_wp2_with (first
            | (go_at_call 61; go_fit (C1.out _); rintro e V1 ⟨(⟨rfl, h1⟩ | ⟨rfl, h1⟩), U1⟩; rotate_left; (exact post_panic (P := Tryz.prog) (fn := Tryz.f44) (R := fun e w' => Done base (some ⟨g, 0, none⟩) g cap (bounceE L) w e w') rfl ⟨(hW.trans (GV.trans ((Grew.refl V).drew.trans U1)).but), .inr (HNo.out _ (HS1.out h1.out) h1.out)⟩))
            | fail)
          refine hK.out _ _ (⟨⟨hH0.1.1.grew U1, hH0.1.2.1.grew U1, hH0.1.2.2.grew U1⟩, trivial⟩) (fun hHa11 => ?_)
          clear hK K
          refine lat_free (i := 11) (oi := { dst := some 14, op := Go.Op.move (Go.Operand.tmp 25), type := 35, pos := "world.go:126", after := #[{ on := 10, ground := Go.Ground.data }], guard := none }) (v := ?va12) rfl (by kernel_rfl) (by kernel_rfl) (by kernel_rfl) (by kernel_rfl) (fun _ _ _ h => h) (Or.inl ⟨by rfl, ?hya12⟩) ⟨hHa11.1, fun _ => hHa11.2⟩ ?resta12
          case hya12 => (intro w hAw; obtain ⟨⟨c0, c1⟩, ⟨b0, b1, b2, b3, b4, b5, b6, b7⟩, ⟨e0, e1, e2, e3, e4, e5, e6, e7⟩⟩ := hAw; go_simp; try (with_reducible rfl))
          simp only [Act.put, List.setIfInBounds_toArray, List.set_cons_zero, List.set_cons_succ]
          refine lat_free (i := 12) (oi := { dst := some 26, op := Go.Op.extract (Go.Operand.tmp 14) 0, type := 34, pos := "world.go:126", after := #[{ on := 11, ground := Go.Ground.data }], guard := none }) (v := ?va13) rfl (by kernel_rfl) (by kernel_rfl) (by kernel_rfl) (by kernel_rfl) (fun _ _ _ h => h) (Or.inl ⟨by rfl, ?hya13⟩) ⟨hHa11.1, fun _ => hHa11.2⟩ ?resta13
          case hya13 => (intro w hAw; obtain ⟨⟨c0, c1⟩, ⟨b0, b1, b2, b3, b4, b5, b6, b7⟩, ⟨e0, e1, e2, e3, e4, e5, e6, e7⟩⟩ := hAw; go_simp; try (with_reducible rfl))
          simp only [Act.put, List.setIfInBounds_toArray, List.set_cons_zero, List.set_cons_succ]
          refine lat_free (i := 13) (oi := { dst := some 27, op := Go.Op.extract (Go.Operand.tmp 14) 1, type := 4, pos := "world.go:126", after := #[{ on := 11, ground := Go.Ground.data }, { on := 15, ground := Go.Ground.gcOnly Go.Departure.lateStores }], guard := none }) (v := ?va14) rfl (by kernel_rfl) (by kernel_rfl) (by kernel_rfl) (by kernel_rfl) (fun _ _ _ h => h) (Or.inl ⟨by rfl, ?hya14⟩) ⟨hHa11.1, fun _ => hHa11.2⟩ ?resta14
          case hya14 => (intro w hAw; obtain ⟨⟨c0, c1⟩, ⟨b0, b1, b2, b3, b4, b5, b6, b7⟩, ⟨e0, e1, e2, e3, e4, e5, e6, e7⟩⟩ := hAw; go_simp; try (with_reducible rfl))
          simp only [Act.put, List.setIfInBounds_toArray, List.set_cons_zero, List.set_cons_succ]
          refine lat_one (i := 14) (by kernel_rfl) ?_
          refine lat_run (o := { dst := some 4, op := Go.Op.alloc 34, type := 0, pos := "world.go:126", after := #[], guard := none }) rfl (fun K hK => ?_)
          have GA : Grew V (V1.alloc (.cells #[.int .i64 0, .int .i64 0, .int .i64 0] 34)) := ((Grew.refl V).drew.trans U1).alloc _ _
          have UA : Grew V1 (V1.alloc (.cells #[.int .i64 0, .int .i64 0, .int .i64 0] 34)) := (Grew.refl V1).alloc _ _
          have hrV : V.heap.size ≤ V1.heap.size := ((Grew.refl V).drew.trans U1).size
          go_simp
          refine hK.out _ _ (⟨⟨hHa11.1.1.grew UA, hHa11.1.2.1.grew UA, hHa11.1.2.2.grew UA⟩, trivial⟩) (fun hHa15 => ?_)
          clear hK K
          refine lat_one (i := 15) (by kernel_rfl) ?_
          refine lat_run (o := { dst := none, op := Go.Op.store 34 (Go.Operand.tmp 4) (Go.Operand.tmp 26), type := 0, pos := "world.go:126", after := #[{ on := 14, ground := Go.Ground.data }, { on := 12, ground := Go.Ground.data }, { on := 10, ground := Go.Ground.chain }, { on := 0, ground := Go.Ground.phase }, { on := 1, ground := Go.Ground.phase }, { on := 2, ground := Go.Ground.phase }, { on := 3, ground := Go.Ground.phase }, { on := 4, ground := Go.Ground.phase }, { on := 5, ground := Go.Ground.phase }, { on := 6, ground := Go.Ground.phase }, { on := 7, ground := Go.Ground.phase }, { on := 8, ground := Go.Ground.phase }, { on := 9, ground := Go.Ground.phase }, { on := 10, ground := Go.Ground.phase }, { on := 11, ground := Go.Ground.phase }, { on := 12, ground := Go.Ground.phase }, { on := 13, ground := Go.Ground.textOnly Go.Departure.lateStores }, { on := 14, ground := Go.Ground.phase }], guard := none }) rfl (fun K hK => ?_)
          have GX : ∀ c, Grew V (V1.alloc (.cells c 34)) := fun c => ((Grew.refl V).drew.trans U1).alloc _ _
          go_simp
          refine hK.out _ _ (⟨⟨hc.grew (GX _), hb1.grew (GX _), hb2.grew (GX _)⟩, trivial⟩) (fun hHa16 => ?_)
          clear hK K
          refine lat_free (i := 16) (oi := { dst := some 5, op := Go.Op.assign (Go.Operand.tmp 27), type := 4, pos := "world.go:126", after := #[{ on := 13, ground := Go.Ground.data }, { on := 15, ground := Go.Ground.chain }, { on := 0, ground := Go.Ground.phase }, { on := 1, ground := Go.Ground.phase }, { on := 2, ground := Go.Ground.phase }, { on := 3, ground := Go.Ground.phase }, { on := 4, ground := Go.Ground.phase }, { on := 5, ground := Go.Ground.phase }, { on := 6, ground := Go.Ground.phase }, { on := 7, ground := Go.Ground.phase }, { on := 8, ground := Go.Ground.phase }, { on := 9, ground := Go.Ground.phase }, { on := 10, ground := Go.Ground.phase }, { on := 11, ground := Go.Ground.phase }, { on := 12, ground := Go.Ground.phase }, { on := 13, ground := Go.Ground.phase }, { on := 14, ground := Go.Ground.phase }, { on := 15, ground := Go.Ground.phase }], guard := none }) (v := ?va17) rfl (by kernel_rfl) (by kernel_rfl) (by kernel_rfl) (by kernel_rfl) (fun _ _ _ h => h) (Or.inl ⟨by rfl, ?hya17⟩) ⟨hHa16.1, fun _ => hHa16.2⟩ ?resta17
          case hya17 => (intro w hAw; obtain ⟨⟨c0, c1⟩, ⟨b0, b1, b2, b3, b4, b5, b6, b7⟩, ⟨e0, e1, e2, e3, e4, e5, e6, e7⟩⟩ := hAw; go_simp; try (with_reducible rfl))
          simp only [Act.put, List.setIfInBounds_toArray, List.set_cons_zero, List.set_cons_succ]
          refine lat_done (by kernel_rfl) ?_ _
          go_wp2_with (fail)
          go_meet
          refine ⟨V1.heap.size, rfl, rfl, h1.out, ?_, by omega, GX _⟩
          constructor <;> simp [go_sem]
        · refine lat_run (o := { dst := some 4, op := Go.Op.alloc 34, type := 0, pos := "world.go:126", after := #[], guard := none }) rfl (fun K hK => ?_)
          have GA : Grew V (V.drew.alloc (.cells #[.int .i64 0, .int .i64 0, .int .i64 0] 34)) := (Grew.refl V).drew.alloc _ _
          have UA : Grew V.drew (V.drew.alloc (.cells #[.int .i64 0, .int .i64 0, .int .i64 0] 34)) := (Grew.refl V.drew).alloc _ _
          go_simp
          refine hK.out _ _ (⟨⟨hH0.1.1.grew UA, hH0.1.2.1.grew UA, hH0.1.2.2.grew UA⟩, trivial⟩) (fun hHa18 => ?_)
          clear hK K
          refine lat_one (i := 10) (by kernel_rfl) ?_
          refine lat_run (o := { dst := some 25, op := Go.Op.call { callee := Go.Callee.value (Go.Operand.func 61), args := #[Go.Operand.tmp 19, Go.Operand.tmp 24], argTypes := #[28, 28] }, type := 35, pos := "world.go:126", after := #[{ on := 4, ground := Go.Ground.data }, { on := 9, ground := Go.Ground.data }], guard := none }) rfl (fun K hK => ?_)
          go_simp
          go_wp2_with (first
            | (go_at_call 61; go_fit (C1.out _); rintro e V1 ⟨(⟨rfl, h1⟩ | ⟨rfl, h1⟩), U1⟩; rotate_left; (exact post_panic (P := Tryz.prog) (fn := Tryz.f44) (R := fun e w' => Done base (some ⟨g, 0, none⟩) g cap (bounceE L) w e w') rfl ⟨(hW.trans (GV.trans (GA.trans U1)).but), .inr (HNo.out _ (HS1.out h1.out) h1.out)⟩))
            | fail)
          refine hK.out _ _ (⟨⟨hHa18.1.1.grew U1, hHa18.1.2.1.grew U1, hHa18.1.2.2.grew U1⟩, trivial⟩) (fun hHa19 => ?_)
          clear hK K
          refine lat_free (i := 11) (oi := { dst := some 14, op := Go.Op.move (Go.Operand.tmp 25), type := 35, pos := "world.go:126", after := #[{ on := 10, ground := Go.Ground.data }], guard := none }) (v := ?va20) rfl (by kernel_rfl) (by kernel_rfl) (by kernel_rfl) (by kernel_rfl) (fun _ _ _ h => h) (Or.inl ⟨by rfl, ?hya20⟩) ⟨hHa19.1, fun _ => hHa19.2⟩ ?resta20
          case hya20 => (intro w hAw; obtain ⟨⟨c0, c1⟩, ⟨b0, b1, b2, b3, b4, b5, b6, b7⟩, ⟨e0, e1, e2, e3, e4, e5, e6, e7⟩⟩ := hAw; go_simp; try (with_reducible rfl))
          simp only [Act.put, List.setIfInBounds_toArray, List.set_cons_zero, List.set_cons_succ]
          refine lat_free (i := 12) (oi := { dst := some 26, op := Go.Op.extract (Go.Operand.tmp 14) 0, type := 34, pos := "world.go:126", after := #[{ on := 11, ground := Go.Ground.data }], guard := none }) (v := ?va21) rfl (by kernel_rfl) (by kernel_rfl) (by kernel_rfl) (by kernel_rfl) (fun _ _ _ h => h) (Or.inl ⟨by rfl, ?hya21⟩) ⟨hHa19.1, fun _ => hHa19.2⟩ ?resta21
          case hya21 => (intro w hAw; obtain ⟨⟨c0, c1⟩, ⟨b0, b1, b2, b3, b4, b5, b6, b7⟩, ⟨e0, e1, e2, e3, e4, e5, e6, e7⟩⟩ := hAw; go_simp; try (with_reducible rfl))
          simp only [Act.put, List.setIfInBounds_toArray, List.set_cons_zero, List.set_cons_succ]
          refine lat_free (i := 13) (oi := { dst := some 27, op := Go.Op.extract (Go.Operand.tmp 14) 1, type := 4, pos := "world.go:126", after := #[{ on := 11, ground := Go.Ground.data }, { on := 15, ground := Go.Ground.gcOnly Go.Departure.lateStores }], guard := none }) (v := ?va22) rfl (by kernel_rfl) (by kernel_rfl) (by kernel_rfl) (by kernel_rfl) (fun _ _ _ h => h) (Or.inl ⟨by rfl, ?hya22⟩) ⟨hHa19.1, fun _ => hHa19.2⟩ ?resta22
          case hya22 => (intro w hAw; obtain ⟨⟨c0, c1⟩, ⟨b0, b1, b2, b3, b4, b5, b6, b7⟩, ⟨e0, e1, e2, e3, e4, e5, e6, e7⟩⟩ := hAw; go_simp; try (with_reducible rfl))
          simp only [Act.put, List.setIfInBounds_toArray, List.set_cons_zero, List.set_cons_succ]
          refine lat_one (i := 15) (by kernel_rfl) ?_
          refine lat_run (o := { dst := none, op := Go.Op.store 34 (Go.Operand.tmp 4) (Go.Operand.tmp 26), type := 0, pos := "world.go:126", after := #[{ on := 14, ground := Go.Ground.data }, { on := 12, ground := Go.Ground.data }, { on := 10, ground := Go.Ground.chain }, { on := 0, ground := Go.Ground.phase }, { on := 1, ground := Go.Ground.phase }, { on := 2, ground := Go.Ground.phase }, { on := 3, ground := Go.Ground.phase }, { on := 4, ground := Go.Ground.phase }, { on := 5, ground := Go.Ground.phase }, { on := 6, ground := Go.Ground.phase }, { on := 7, ground := Go.Ground.phase }, { on := 8, ground := Go.Ground.phase }, { on := 9, ground := Go.Ground.phase }, { on := 10, ground := Go.Ground.phase }, { on := 11, ground := Go.Ground.phase }, { on := 12, ground := Go.Ground.phase }, { on := 13, ground := Go.Ground.textOnly Go.Departure.lateStores }, { on := 14, ground := Go.Ground.phase }], guard := none }) rfl (fun K hK => ?_)
          have GF : Grew V V1 := GA.trans U1
          have k0 := U1.cell (p := ⟨V.heap.size, 0, none⟩) (v := .int .i64 0) (by simp [go_sem])
          have k1 := U1.cell (p := ⟨V.heap.size, 1, none⟩) (v := .int .i64 0) (by simp [go_sem])
          have k2 := U1.cell (p := ⟨V.heap.size, 2, none⟩) (v := .int .i64 0) (by simp [go_sem])
          have n0 := GF.free (p := ⟨V.heap.size, 0, none⟩) (Nat.le_refl _)
          have n1 := GF.free (p := ⟨V.heap.size, 1, none⟩) (Nat.le_refl _)
          have n2 := GF.free (p := ⟨V.heap.size, 2, none⟩) (Nat.le_refl _)
          have GX : ∀ a b c, Grew V (((V1.setCell ⟨V.heap.size, 0, none⟩ a).setCell ⟨V.heap.size, 1, none⟩ b).setCell ⟨V.heap.size, 2, none⟩ c) := fun a b c => ((GF.setCell (a := ⟨V.heap.size, 0, none⟩) (Nat.le_refl _) _).setCell (a := ⟨V.heap.size, 1, none⟩) (Nat.le_refl _) _).setCell (a := ⟨V.heap.size, 2, none⟩) (Nat.le_refl _) _
          go_simp
          refine hK.out _ _ (⟨⟨hc.grew (GX _ _ _), hb1.grew (GX _ _ _), hb2.grew (GX _ _ _)⟩, trivial⟩) (fun hHa23 => ?_)
          clear hK K
          refine lat_free (i := 16) (oi := { dst := some 5, op := Go.Op.assign (Go.Operand.tmp 27), type := 4, pos := "world.go:126", after := #[{ on := 13, ground := Go.Ground.data }, { on := 15, ground := Go.Ground.chain }, { on := 0, ground := Go.Ground.phase }, { on := 1, ground := Go.Ground.phase }, { on := 2, ground := Go.Ground.phase }, { on := 3, ground := Go.Ground.phase }, { on := 4, ground := Go.Ground.phase }, { on := 5, ground := Go.Ground.phase }, { on := 6, ground := Go.Ground.phase }, { on := 7, ground := Go.Ground.phase }, { on := 8, ground := Go.Ground.phase }, { on := 9, ground := Go.Ground.phase }, { on := 10, ground := Go.Ground.phase }, { on := 11, ground := Go.Ground.phase }, { on := 12, ground := Go.Ground.phase }, { on := 13, ground := Go.Ground.phase }, { on := 14, ground := Go.Ground.phase }, { on := 15, ground := Go.Ground.phase }], guard := none }) (v := ?va24) rfl (by kernel_rfl) (by kernel_rfl) (by kernel_rfl) (by kernel_rfl) (fun _ _ _ h => h) (Or.inl ⟨by rfl, ?hya24⟩) ⟨hHa23.1, fun _ => hHa23.2⟩ ?resta24
          case hya24 => (intro w hAw; obtain ⟨⟨c0, c1⟩, ⟨b0, b1, b2, b3, b4, b5, b6, b7⟩, ⟨e0, e1, e2, e3, e4, e5, e6, e7⟩⟩ := hAw; go_simp; try (with_reducible rfl))
          simp only [Act.put, List.setIfInBounds_toArray, List.set_cons_zero, List.set_cons_succ]
          refine lat_done (by kernel_rfl) ?_ _
          go_wp2_with (fail)
          go_meet
          refine ⟨V.heap.size, rfl, rfl, h1.out, ?_, by omega, GX _ _ _⟩
          constructor <;> simp [go_sem, k0, k1, k2]
      case rest =>
        obtain ⟨r, rfl, rfl, rfl, hh2, hrg, G2⟩ := hcut
        obtain ⟨V2, hV2⟩ : ∃ X, X = wc := ⟨_, rfl⟩
        rw [← hV2] at hh2 G2 ⊢
        clear hV2
        have GV2 : Grew wr V2 := GV.trans G2
        have hc2 := hc.grew G2
        have hb1 := hb1.grew G2
        have hb2 := hb2.grew G2
        cases t
        · have hE := HS2.out rfl rfl
          have h4 : (hitE P k C).2 = 0 := by rw [hE]
          have h5 : (hitE P k C).1 = C := by rw [hE]
          have hU3 : Hid (bounceE L = upE (hitE P) (P.length - (k + 1)) (k + 1) C) := by show _ = _; rw [HU.out, upE_ok hlt h4, h5]
          clear h4 h5 hE
          go_wp2_with (fail)
          refine ⟨⟨k + 1, C, by omega, rfl, hl, hO.grew GV2, hU3, hW.trans GV2.but, row_grew hRow GV2⟩, ?_⟩
          simp [intOf]; omega
        have HF1 : Hid (¬ T.2 = 0 → (hitE P k C).2 = T.2) := HT1.out rfl rfl
        have HF2 : Hid (T.2 = 0 → hitE P k C = ((C.set x T.1.1).set y T.1.2, 0)) := HT2.out rfl rfl
        clear HT1 HT2 HS1 HS2 C1
        go_upto_region 5 with (fail)
        refine lat_region (A := (fun w' => C2 w' q x y ∧ HAt w' r h)) (S := (fun w' => BatO w' g (x * 8) B1 ∧ BatO w' g (y * 8) B2)) [22, 24] (by kernel_rfl) ?_ (fun hH0 => ?_)
        · exact ⟨⟨hc2.grew (Grew.refl V2).drew, hh2.grew (Grew.refl V2).drew⟩, hb1.grew (Grew.refl V2).drew, hb2.grew (Grew.refl V2).drew⟩
        refine lat_free (i := 0) (oi := { dst := some 30, op := Go.Op.move (Go.Operand.tmp 0), type := 22, pos := "world.go:127", after := #[], guard := none }) (v := ?vb1) rfl (by kernel_rfl) (by kernel_rfl) (by kernel_rfl) (by kernel_rfl) (fun _ _ _ h => h) (Or.inl ⟨by rfl, ?hyb1⟩) ⟨hH0.1, fun _ => hH0.2⟩ ?restb1
        case hyb1 => (intro w hAw; obtain ⟨⟨c0, c1⟩, ⟨g0, g1, g2⟩⟩ := hAw; go_simp; try (with_reducible rfl))
        simp only [Act.put, List.setIfInBounds_toArray, List.set_cons_zero, List.set_cons_succ]
        refine lat_free (i := 1) (oi := { dst := some 31, op := Go.Op.fieldAddr 99 (Go.Operand.tmp 3) 0, type := 0, pos := "world.go:127", after := #[], guard := none }) (v := ?vb2) rfl (by kernel_rfl) (by kernel_rfl) (by kernel_rfl) (by kernel_rfl) (fun _ _ _ h => h) (Or.inl ⟨by rfl, ?hyb2⟩) ⟨hH0.1, fun _ => hH0.2⟩ ?restb2
        case hyb2 => (intro w hAw; obtain ⟨⟨c0, c1⟩, ⟨g0, g1, g2⟩⟩ := hAw; go_simp; try (with_reducible rfl))
        simp only [Act.put, List.setIfInBounds_toArray, List.set_cons_zero, List.set_cons_succ]
        refine lat_free (i := 2) (oi := { dst := some 32, op := Go.Op.load 3 (Go.Operand.tmp 31), type := 3, pos := "world.go:127", after := #[{ on := 1, ground := Go.Ground.data }], guard := none }) (v := ?vb3) rfl (by kernel_rfl) (by kernel_rfl) (by kernel_rfl) (by kernel_rfl) (fun _ _ _ h => h) (Or.inl ⟨by rfl, ?hyb3⟩) ⟨hH0.1, fun _ => hH0.2⟩ ?restb3
        case hyb3 => (intro w hAw; obtain ⟨⟨c0, c1⟩, ⟨g0, g1, g2⟩⟩ := hAw; go_simp; try (with_reducible rfl))
        simp only [Act.put, List.setIfInBounds_toArray, List.set_cons_zero, List.set_cons_succ]
        refine lat_free (i := 3) (oi := { dst := some 33, op := Go.Op.move (Go.Operand.tmp 0), type := 22, pos := "world.go:127", after := #[{ on := 22, ground := Go.Ground.gcOnly Go.Departure.lateStores }], guard := none }) (v := ?vb4) rfl (by kernel_rfl) (by kernel_rfl) (by kernel_rfl) (by kernel_rfl) (fun _ _ _ h => h) (Or.inl ⟨by rfl, ?hyb4⟩) ⟨hH0.1, fun _ => hH0.2⟩ ?restb4
        case hyb4 => (intro w hAw; obtain ⟨⟨c0, c1⟩, ⟨g0, g1, g2⟩⟩ := hAw; go_simp; try (with_reducible rfl))
        simp only [Act.put, List.setIfInBounds_toArray, List.set_cons_zero, List.set_cons_succ]
        refine lat_free (i := 4) (oi := { dst := some 34, op := Go.Op.fieldAddr 99 (Go.Operand.tmp 3) 1, type := 0, pos := "world.go:127", after := #[{ on := 22, ground := Go.Ground.gcOnly Go.Departure.lateStores }], guard := none }) (v := ?vb5) rfl (by kernel_rfl) (by kernel_rfl) (by kernel_rfl) (by kernel_rfl) (fun _ _ _ h => h) (Or.inl ⟨by rfl, ?hyb5⟩) ⟨hH0.1, fun _ => hH0.2⟩ ?restb5
        case hyb5 => (intro w hAw; obtain ⟨⟨c0, c1⟩, ⟨g0, g1, g2⟩⟩ := hAw; go_simp; try (with_reducible rfl))
        simp only [Act.put, List.setIfInBounds_toArray, List.set_cons_zero, List.set_cons_succ]
        refine lat_free (i := 5) (oi := { dst := some 35, op := Go.Op.load 3 (Go.Operand.tmp 34), type := 3, pos := "world.go:127", after := #[{ on := 4, ground := Go.Ground.data }, { on := 22, ground := Go.Ground.gcOnly Go.Departure.lateStores }], guard := none }) (v := ?vb6) rfl (by kernel_rfl) (by kernel_rfl) (by kernel_rfl) (by kernel_rfl) (fun _ _ _ h => h) (Or.inl ⟨by rfl, ?hyb6⟩) ⟨hH0.1, fun _ => hH0.2⟩ ?restb6
        case hyb6 => (intro w hAw; obtain ⟨⟨c0, c1⟩, ⟨g0, g1, g2⟩⟩ := hAw; go_simp; try (with_reducible rfl))
        simp only [Act.put, List.setIfInBounds_toArray, List.set_cons_zero, List.set_cons_succ]
        refine lat_free (i := 6) (oi := { dst := some 36, op := Go.Op.move (Go.Operand.tmp 0), type := 22, pos := "world.go:127", after := #[], guard := none }) (v := ?vb7) rfl (by kernel_rfl) (by kernel_rfl) (by kernel_rfl) (by kernel_rfl) (fun _ _ _ h => h) (Or.inl ⟨by rfl, ?hyb7⟩) ⟨hH0.1, fun _ => hH0.2⟩ ?restb7
        case hyb7 => (intro w hAw; obtain ⟨⟨c0, c1⟩, ⟨g0, g1, g2⟩⟩ := hAw; go_simp; try (with_reducible rfl))
        simp only [Act.put, List.setIfInBounds_toArray, List.set_cons_zero, List.set_cons_succ]
        refine lat_free (i := 7) (oi := { dst := some 37, op := Go.Op.fieldAddr 99 (Go.Operand.tmp 3) 0, type := 0, pos := "world.go:127", after := #[], guard := none }) (v := ?vb8) rfl (by kernel_rfl) (by kernel_rfl) (by kernel_rfl) (by kernel_rfl) (fun _ _ _ h => h) (Or.inl ⟨by rfl, ?hyb8⟩) ⟨hH0.1, fun _ => hH0.2⟩ ?restb8
        case hyb8 => (intro w hAw; obtain ⟨⟨c0, c1⟩, ⟨g0, g1, g2⟩⟩ := hAw; go_simp; try (with_reducible rfl))
        simp only [Act.put, List.setIfInBounds_toArray, List.set_cons_zero, List.set_cons_succ]
        refine lat_free (i := 8) (oi := { dst := some 38, op := Go.Op.load 3 (Go.Operand.tmp 37), type := 3, pos := "world.go:127", after := #[{ on := 7, ground := Go.Ground.data }], guard := none }) (v := ?vb9) rfl (by kernel_rfl) (by kernel_rfl) (by kernel_rfl) (by kernel_rfl) (fun _ _ _ h => h) (Or.inl ⟨by rfl, ?hyb9⟩) ⟨hH0.1, fun _ => hH0.2⟩ ?restb9
        case hyb9 => (intro w hAw; obtain ⟨⟨c0, c1⟩, ⟨g0, g1, g2⟩⟩ := hAw; go_simp; try (with_reducible rfl))
        simp only [Act.put, List.setIfInBounds_toArray, List.set_cons_zero, List.set_cons_succ]
        refine lat_free (i := 9) (oi := { dst := some 39, op := Go.Op.indexAddr 22 (Go.Operand.tmp 36) (Go.Operand.tmp 38), type := 0, pos := "world.go:127", after := #[{ on := 6, ground := Go.Ground.data }, { on := 8, ground := Go.Ground.data }], guard := none }) (v := ?vb10) rfl (by kernel_rfl) (by kernel_rfl) (by kernel_rfl) (by kernel_rfl) (fun _ _ _ h => h) (Or.inl ⟨by rfl, ?hyb10⟩) ⟨hH0.1, fun _ => hH0.2⟩ ?restb10
        case hyb10 => (intro w hAw; obtain ⟨⟨c0, c1⟩, ⟨g0, g1, g2⟩⟩ := hAw; go_simp; try (with_reducible rfl))
        simp only [Act.put, List.setIfInBounds_toArray, List.set_cons_zero, List.set_cons_succ]
        refine lat_take (i := 10) (oi := { dst := some 40, op := Go.Op.load 28 (Go.Operand.tmp 39), type := 28, pos := "world.go:127", after := #[{ on := 9, ground := Go.Ground.data }], guard := none }) (v := ?vb11) rfl (by kernel_rfl) (by kernel_rfl) (by kernel_rfl) (by kernel_rfl) (by kernel_rfl) (fun _ _ _ h => h) (Or.inl ⟨by rfl, ?hyb11⟩) hH0 ?restb11
        case hyb11 => (intro w hSw; obtain ⟨⟨b0, b1, b2, b3, b4, b5, b6, b7⟩, ⟨e0, e1, e2, e3, e4, e5, e6, e7⟩⟩ := hSw; go_simp; try (with_reducible rfl))
        simp only [Act.put, List.setIfInBounds_toArray, List.set_cons_zero, List.set_cons_succ]
        refine lat_free (i := 11) (oi := { dst := some 41, op := Go.Op.move (Go.Operand.tmp 0), type := 22, pos := "world.go:127", after := #[], guard := none }) (v := ?vb12) rfl (by kernel_rfl) (by kernel_rfl) (by kernel_rfl) (by kernel_rfl) (fun _ _ _ h => h) (Or.inl ⟨by rfl, ?hyb12⟩) ⟨hH0.1, fun _ => hH0.2⟩ ?restb12
        case hyb12 => (intro w hAw; obtain ⟨⟨c0, c1⟩, ⟨g0, g1, g2⟩⟩ := hAw; go_simp; try (with_reducible rfl))
        simp only [Act.put, List.setIfInBounds_toArray, List.set_cons_zero, List.set_cons_succ]
        refine lat_free (i := 12) (oi := { dst := some 42, op := Go.Op.fieldAddr 99 (Go.Operand.tmp 3) 1, type := 0, pos := "world.go:127", after := #[], guard := none }) (v := ?vb13) rfl (by kernel_rfl) (by kernel_rfl) (by kernel_rfl) (by kernel_rfl) (fun _ _ _ h => h) (Or.inl ⟨by rfl, ?hyb13⟩) ⟨hH0.1, fun _ => hH0.2⟩ ?restb13
        case hyb13 => (intro w hAw; obtain ⟨⟨c0, c1⟩, ⟨g0, g1, g2⟩⟩ := hAw; go_simp; try (with_reducible rfl))
        simp only [Act.put, List.setIfInBounds_toArray, List.set_cons_zero, List.set_cons_succ]
        refine lat_free (i := 13) (oi := { dst := some 43, op := Go.Op.load 3 (Go.Operand.tmp 42), type := 3, pos := "world.go:127", after := #[{ on := 12, ground := Go.Ground.data }], guard := none }) (v := ?vb14) rfl (by kernel_rfl) (by kernel_rfl) (by kernel_rfl) (by kernel_rfl) (fun _ _ _ h => h) (Or.inl ⟨by rfl, ?hyb14⟩) ⟨hH0.1, fun _ => hH0.2⟩ ?restb14
        case hyb14 => (intro w hAw; obtain ⟨⟨c0, c1⟩, ⟨g0, g1, g2⟩⟩ := hAw; go_simp; try (with_reducible rfl))
        simp only [Act.put, List.setIfInBounds_toArray, List.set_cons_zero, List.set_cons_succ]
        refine lat_free (i := 14) (oi := { dst := some 44, op := Go.Op.indexAddr 22 (Go.Operand.tmp 41) (Go.Operand.tmp 43), type := 0, pos := "world.go:127", after := #[{ on := 11, ground := Go.Ground.data }, { on := 13, ground := Go.Ground.data }], guard := none }) (v := ?vb15) rfl (by kernel_rfl) (by kernel_rfl) (by kernel_rfl) (by kernel_rfl) (fun _ _ _ h => h) (Or.inl ⟨by rfl, ?hyb15⟩) ⟨hH0.1, fun _ => hH0.2⟩ ?restb15
        case hyb15 => (intro w hAw; obtain ⟨⟨c0, c1⟩, ⟨g0, g1, g2⟩⟩ := hAw; go_simp; try (with_reducible rfl))
        simp only [Act.put, List.setIfInBounds_toArray, List.set_cons_zero, List.set_cons_succ]
        refine lat_take (i := 15) (oi := { dst := some 45, op := Go.Op.load 28 (Go.Operand.tmp 44), type := 28, pos := "world.go:127", after := #[{ on := 14, ground := Go.Ground.data }], guard := none }) (v := ?vb16) rfl (by kernel_rfl) (by kernel_rfl) (by kernel_rfl) (by kernel_rfl) (by kernel_rfl) (fun _ _ _ h => h) (Or.inl ⟨by rfl, ?hyb16⟩) hH0 ?restb16
        case hyb16 => (intro w hSw; obtain ⟨⟨b0, b1, b2, b3, b4, b5, b6, b7⟩, ⟨e0, e1, e2, e3, e4, e5, e6, e7⟩⟩ := hSw; go_simp; try (with_reducible rfl))
        simp only [Act.put, List.setIfInBounds_toArray, List.set_cons_zero, List.set_cons_succ]
        refine lat_free (i := 16) (oi := { dst := some 46, op := Go.Op.load 34 (Go.Operand.tmp 4), type := 34, pos := "world.go:127", after := #[], guard := none }) (v := ?vb17) rfl (by kernel_rfl) (by kernel_rfl) (by kernel_rfl) (by kernel_rfl) (fun _ _ _ h => h) (Or.inl ⟨by rfl, ?hyb17⟩) ⟨hH0.1, fun _ => hH0.2⟩ ?restb17
        case hyb17 => (intro w hAw; obtain ⟨⟨c0, c1⟩, ⟨g0, g1, g2⟩⟩ := hAw; go_simp; try (with_reducible rfl))
        simp only [Act.put, List.setIfInBounds_toArray, List.set_cons_zero, List.set_cons_succ]
        refine lat_one (i := 17) (by kernel_rfl) ?_
        refine lat_run (o := { dst := some 47, op := Go.Op.call { callee := Go.Callee.value (Go.Operand.func 62), args := #[Go.Operand.tmp 40, Go.Operand.tmp 45, Go.Operand.tmp 46], argTypes := #[28, 28, 34] }, type := 92, pos := "world.go:127", after := #[{ on := 10, ground := Go.Ground.data }, { on := 15, ground := Go.Ground.data }, { on := 16, ground := Go.Ground.data }], guard := none }) rfl (fun K hK => ?_)
        go_simp
        go_wp2_with (first
          | (go_at_call 62; go_fit (D1.out _); rintro e V3 ⟨(⟨rfl, h3⟩ | ⟨rfl, h3⟩), U3⟩; rotate_left; (exact post_panic (P := Tryz.prog) (fn := Tryz.f44) (R := fun e w' => Done base (some ⟨g, 0, none⟩) g cap (bounceE L) w e w') rfl ⟨(hW.trans (GV2.trans ((Grew.refl V2).drew.trans U3)).but), .inr (HNo.out _ (HF1.out h3.out) h3.out)⟩))
          | fail)
        refine hK.out _ _ (⟨⟨hH0.1.1.grew U3, hH0.1.2.grew U3⟩, hH0.2.1.grew U3, hH0.2.2.grew U3⟩) (fun hHb18 => ?_)
        clear hK K
        refine lat_free (i := 18) (oi := { dst := some 29, op := Go.Op.move (Go.Operand.tmp 47), type := 92, pos := "world.go:127", after := #[{ on := 17, ground := Go.Ground.data }], guard := none }) (v := ?vb19) rfl (by kernel_rfl) (by kernel_rfl) (by kernel_rfl) (by kernel_rfl) (fun _ _ _ h => h) (Or.inl ⟨by rfl, ?hyb19⟩) ⟨hHb18.1, fun _ => hHb18.2⟩ ?restb19
        case hyb19 => (intro w hAw; obtain ⟨⟨c0, c1⟩, ⟨g0, g1, g2⟩⟩ := hAw; go_simp; try (with_reducible rfl))
        simp only [Act.put, List.setIfInBounds_toArray, List.set_cons_zero, List.set_cons_succ]
        refine lat_free (i := 19) (oi := { dst := some 48, op := Go.Op.extract (Go.Operand.tmp 29) 0, type := 28, pos := "world.go:127", after := #[{ on := 18, ground := Go.Ground.data }], guard := none }) (v := ?vb20) rfl (by kernel_rfl) (by kernel_rfl) (by kernel_rfl) (by kernel_rfl) (fun _ _ _ h => h) (Or.inl ⟨by rfl, ?hyb20⟩) ⟨hHb18.1, fun _ => hHb18.2⟩ ?restb20
        case hyb20 => (intro w hAw; obtain ⟨⟨c0, c1⟩, ⟨g0, g1, g2⟩⟩ := hAw; go_simp; try (with_reducible rfl))
        simp only [Act.put, List.setIfInBounds_toArray, List.set_cons_zero, List.set_cons_succ]
        refine lat_free (i := 20) (oi := { dst := some 49, op := Go.Op.extract (Go.Operand.tmp 29) 1, type := 28, pos := "world.go:127", after := #[{ on := 18, ground := Go.Ground.data }, { on := 22, ground := Go.Ground.gcOnly Go.Departure.lateStores }], guard := none }) (v := ?vb21) rfl (by kernel_rfl) (by kernel_rfl) (by kernel_rfl) (by kernel_rfl) (fun _ _ _ h => h) (Or.inl ⟨by rfl, ?hyb21⟩) ⟨hHb18.1, fun _ => hHb18.2⟩ ?restb21
        case hyb21 => (intro w hAw; obtain ⟨⟨c0, c1⟩, ⟨g0, g1, g2⟩⟩ := hAw; go_simp; try (with_reducible rfl))
        simp only [Act.put, List.setIfInBounds_toArray, List.set_cons_zero, List.set_cons_succ]
        refine lat_free (i := 21) (oi := { dst := some 50, op := Go.Op.indexAddr 22 (Go.Operand.tmp 30) (Go.Operand.tmp 32), type := 0, pos := "world.go:127", after := #[{ on := 0, ground := Go.Ground.data }, { on := 2, ground := Go.Ground.data }, { on := 0, ground := Go.Ground.phase }, { on := 1, ground := Go.Ground.phase }, { on := 2, ground := Go.Ground.phase }, { on := 3, ground := Go.Ground.textOnly Go.Departure.lateStores }, { on := 4, ground := Go.Ground.textOnly Go.Departure.lateStores }, { on := 5, ground := Go.Ground.textOnly Go.Departure.lateStores }, { on := 6, ground := Go.Ground.phase }, { on := 7, ground := Go.Ground.phase }, { on := 8, ground := Go.Ground.phase }, { on := 9, ground := Go.Ground.phase }, { on := 10, ground := Go.Ground.phase }, { on := 11, ground := Go.Ground.phase }, { on := 12, ground := Go.Ground.phase }, { on := 13, ground := Go.Ground.phase }, { on := 14, ground := Go.Ground.phase }, { on := 15, ground := Go.Ground.phase }, { on := 16, ground := Go.Ground.phase }, { on := 17, ground := Go.Ground.phase }, { on := 18, ground := Go.Ground.phase }, { on := 19, ground := Go.Ground.phase }, { on := 20, ground := Go.Ground.textOnly Go.Departure.lateStores }], guard := none }) (v := ?vb22) rfl (by kernel_rfl) (by kernel_rfl) (by kernel_rfl) (by kernel_rfl) (fun _ _ _ h => h) (Or.inl ⟨by rfl, ?hyb22⟩) ⟨hHb18.1, fun _ => hHb18.2⟩ ?restb22
        case hyb22 => (intro w hAw; obtain ⟨⟨c0, c1⟩, ⟨g0, g1, g2⟩⟩ := hAw; go_simp; try (with_reducible rfl))
        simp only [Act.put, List.setIfInBounds_toArray, List.set_cons_zero, List.set_cons_succ]
        refine lat_one (i := 22) (by kernel_rfl) ?_
        refine lat_write (o := { dst := none, op := Go.Op.store 28 (Go.Operand.tmp 50) (Go.Operand.tmp 48), type := 0, pos := "world.go:127", after := #[{ on := 21, ground := Go.Ground.data }, { on := 19, ground := Go.Ground.data }, { on := 17, ground := Go.Ground.chain }, { on := 0, ground := Go.Ground.phase }, { on := 1, ground := Go.Ground.phase }, { on := 2, ground := Go.Ground.phase }, { on := 3, ground := Go.Ground.textOnly Go.Departure.lateStores }, { on := 4, ground := Go.Ground.textOnly Go.Departure.lateStores }, { on := 5, ground := Go.Ground.textOnly Go.Departure.lateStores }, { on := 6, ground := Go.Ground.phase }, { on := 7, ground := Go.Ground.phase }, { on := 8, ground := Go.Ground.phase }, { on := 9, ground := Go.Ground.phase }, { on := 10, ground := Go.Ground.phase }, { on := 11, ground := Go.Ground.phase }, { on := 12, ground := Go.Ground.phase }, { on := 13, ground := Go.Ground.phase }, { on := 14, ground := Go.Ground.phase }, { on := 15, ground := Go.Ground.phase }, { on := 16, ground := Go.Ground.phase }, { on := 17, ground := Go.Ground.phase }, { on := 18, ground := Go.Ground.phase }, { on := 19, ground := Go.Ground.phase }, { on := 20, ground := Go.Ground.textOnly Go.Departure.lateStores }], guard := none }) rfl (by kernel_rfl) (fun K hK => ?_)
        have G3 : Grew wr V3 := GV2.trans ((Grew.refl V2).drew.trans U3)
        have hO1 := hO.grew G3
        have ⟨a0, a1, a2, a3, a4, a5, a6, a7⟩ := hO1.cells hl1
        have z0 := hO1.free hl1 (x * 8)
        have z1 := hO1.free hl1 (x * 8 + 1)
        have z2 := hO1.free hl1 (x * 8 + 2)
        have z3 := hO1.free hl1 (x * 8 + 3)
        have z4 := hO1.free hl1 (x * 8 + 4)
        have z5 := hO1.free hl1 (x * 8 + 5)
        have z6 := hO1.free hl1 (x * 8 + 6)
        have z7 := hO1.free hl1 (x * 8 + 7)
        go_simp
        refine hK.out _ _ (⟨C2.lay hHb18.1.1 hqg _ _, HAt.layO hHb18.1.2 hrg _ _⟩) (fun hHb23 => ?_)
        clear hK K
        refine lat_free2 (i := 23) (oi := { dst := some 51, op := Go.Op.indexAddr 22 (Go.Operand.tmp 33) (Go.Operand.tmp 35), type := 0, pos := "world.go:127", after := #[{ on := 3, ground := Go.Ground.data }, { on := 5, ground := Go.Ground.data }, { on := 0, ground := Go.Ground.phase }, { on := 1, ground := Go.Ground.phase }, { on := 2, ground := Go.Ground.phase }, { on := 3, ground := Go.Ground.phase }, { on := 4, ground := Go.Ground.phase }, { on := 5, ground := Go.Ground.phase }, { on := 6, ground := Go.Ground.phase }, { on := 7, ground := Go.Ground.phase }, { on := 8, ground := Go.Ground.phase }, { on := 9, ground := Go.Ground.phase }, { on := 10, ground := Go.Ground.phase }, { on := 11, ground := Go.Ground.phase }, { on := 12, ground := Go.Ground.phase }, { on := 13, ground := Go.Ground.phase }, { on := 14, ground := Go.Ground.phase }, { on := 15, ground := Go.Ground.phase }, { on := 16, ground := Go.Ground.phase }, { on := 17, ground := Go.Ground.phase }, { on := 18, ground := Go.Ground.phase }, { on := 19, ground := Go.Ground.phase }, { on := 20, ground := Go.Ground.phase }, { on := 21, ground := Go.Ground.phase }, { on := 22, ground := Go.Ground.phase }], guard := none }) (v := ?vb24) rfl (by kernel_rfl) (by kernel_rfl) (by kernel_rfl) (by kernel_rfl) (by kernel_rfl) (fun _ _ _ h => h) (Or.inl ⟨by rfl, ?hyb24⟩) hHb23 ?restb24
        case hyb24 => (intro w hAw; obtain ⟨⟨c0, c1⟩, ⟨g0, g1, g2⟩⟩ := hAw; go_simp; try (with_reducible rfl))
        simp only [Act.put, List.setIfInBounds_toArray, List.set_cons_zero, List.set_cons_succ]
        refine lat_one (i := 24) (by kernel_rfl) ?_
        refine lat_write (o := { dst := none, op := Go.Op.store 28 (Go.Operand.tmp 51) (Go.Operand.tmp 49), type := 0, pos := "world.go:127", after := #[{ on := 23, ground := Go.Ground.data }, { on := 20, ground := Go.Ground.data }, { on := 22, ground := Go.Ground.chain }, { on := 0, ground := Go.Ground.phase }, { on := 1, ground := Go.Ground.phase }, { on := 2, ground := Go.Ground.phase }, { on := 3, ground := Go.Ground.phase }, { on := 4, ground := Go.Ground.phase }, { on := 5, ground := Go.Ground.phase }, { on := 6, ground := Go.Ground.phase }, { on := 7, ground := Go.Ground.phase }, { on := 8, ground := Go.Ground.phase }, { on := 9, ground := Go.Ground.phase }, { on := 10, ground := Go.Ground.phase }, { on := 11, ground := Go.Ground.phase }, { on := 12, ground := Go.Ground.phase }, { on := 13, ground := Go.Ground.phase }, { on := 14, ground := Go.Ground.phase }, { on := 15, ground := Go.Ground.phase }, { on := 16, ground := Go.Ground.phase }, { on := 17, ground := Go.Ground.phase }, { on := 18, ground := Go.Ground.phase }, { on := 19, ground := Go.Ground.phase }, { on := 20, ground := Go.Ground.phase }, { on := 21, ground := Go.Ground.phase }, { on := 22, ground := Go.Ground.phase }], guard := none }) rfl (by kernel_rfl) (fun K hK => ?_)
        have hO2 := hO1.lay hl1 HP.out.1
        have ⟨d0, d1, d2, d3, d4, d5, d6, d7⟩ := hO2.cells hl2'
        rw [bd_far h12] at d0 d1 d2 d3 d4 d5 d6 d7
        rw [HB2.out] at d0 d1 d2 d3 d4 d5 d6 d7
        unfold layO at d0 d1 d2 d3 d4 d5 d6 d7
        have y0 := hO1.free hl2 (y * 8)
        have y1 := hO1.free hl2 (y * 8 + 1)
        have y2 := hO1.free hl2 (y * 8 + 2)
        have y3 := hO1.free hl2 (y * 8 + 3)
        have y4 := hO1.free hl2 (y * 8 + 4)
        have y5 := hO1.free hl2 (y * 8 + 5)
        have y6 := hO1.free hl2 (y * 8 + 6)
        have y7 := hO1.free hl2 (y * 8 + 7)
        go_simp
        refine hK.out _ _ (⟨C2.lay hHb23.1 hqg _ _, HAt.layO hHb23.2 hrg _ _⟩) (fun hHb25 => ?_)
        clear hK K
        refine lat_done (by kernel_rfl) ?_ _
        go_wp2_with (fail)
        have hE := HF2.out h3.out
        have hO3 := hO2.lay hl2' HP.out.2
        have h4 : (hitE P k C).2 = 0 := by rw [hE]
        have h5 : (hitE P k C).1 = (C.set x T.1.1).set y T.1.2 := by rw [hE]
        have hW3 := but_lay (but_lay (hW.trans G3.but) (b := g) rfl (x * 8) T.1.1) (b := g) rfl (y * 8) T.1.2
        have hU3 : Hid (bounceE L = upE (hitE P) (P.length - (k + 1)) (k + 1) ((C.set x T.1.1).set y T.1.2)) := by show _ = _; rw [HU.out, upE_ok hlt h4, h5]
        refine ⟨⟨k + 1, (C.set x T.1.1).set y T.1.2, by omega, rfl, by rw [List.length_set, List.length_set]; exact hl, hO3, hU3, hW3, ?_⟩, ?_⟩
        · exact row_but (row_grew hRow G3) (but_lay (but_lay (But.refl (fun n => n = g) V3) rfl _ _) rfl _ _) (fun i hi => by simp [Value.ownBlock] at hi; omega)
        · simp [intOf]; omega
    · have hi : ¬ (k : Int) < (P.length : Int) := by omega
      obtain rfl : k = P.length := by omega
      have hE : Hid (bounceE L = (C, 0)) := by show _ = _; rw [HU.out, Nat.sub_self]; rfl
      clear HU
      go_wp2_with (fail)
      go_end0
      exact ⟨hW, .inl ⟨by rw [hE.out], rfl, by rw [hE.out]; exact hO⟩⟩
end Go.Proofs.YtcoooehcgbohgaaGreat
