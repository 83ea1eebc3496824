/-
  What world.pull does: each joint once, as the plain function says, or a panic of a Fault; the bodies' block alone is written. What world.move does: the bodies as the plain function says, or a panic of a Fault; their block alone is written.
-/
import Derived.Test.YtcoooehcgbohgaaGreatPk06
import Derived.Test.YtcoooehcgbohgaaGreatPk07
import Derived.Test.YtcoooehcgbohgaaGreatPk03
import Derived.Deep.QuietTactic
import Derived.BigQuiet
import Derived.Deep.CutRange
import Derived.Deep.CutBlock
namespace Go.Proofs.YtcoooehcgbohgaaGreat
open Go.RowKit

/-- Three numbers that lie in memory. -/
structure C3 (w : World) (q : Nat) (x y z : Int) : Prop where
  c0 : w.cell? ⟨q, 0, none⟩ = some (.int .i64 x)
  c1 : w.cell? ⟨q, 1, none⟩ = some (.int .i64 y)
  c2 : w.cell? ⟨q, 2, none⟩ = some (.int .i64 z)
theorem C3.heap {w W : World} {q : Nat} {x y z : Int} (k : C3 w q x y z) (g : W.heap[q]? = w.heap[q]?) : C3 W q x y z := by
  have e : ∀ o s, W.cell? ⟨q, o, s⟩ = w.cell? ⟨q, o, s⟩ := fun o s => cell_of_heap g
  exact ⟨(e _ _).trans k.c0, (e _ _).trans k.c1, (e _ _).trans k.c2⟩
theorem C3.size {w : World} {q : Nat} {x y z : Int} (k : C3 w q x y z) : q < w.heap.size := cell_block k.c0
theorem C3.grew {w W : World} {q : Nat} {x y z : Int} (k : C3 w q x y z) (g : Grew w W) : C3 W q x y z := k.heap (g.heap k.size)
theorem lay_else {V : World} {b c : Nat} (h : c ≠ b) (o : Nat) (B : Bd) : (layO V b o B).heap[c]? = V.heap[c]? := by
  have := (but_lay (But.refl (fun n => n = b) V) rfl o B)
  by_cases hc : c < V.heap.size
  · exact this.block c hc h
  · have e : (layO V b o B).heap.size = V.heap.size := by unfold layO; simp [World.setCell]
    rw [Array.getElem?_eq_none (by omega), Array.getElem?_eq_none (by omega)]
theorem C3.lay {V : World} {q b : Nat} {x y z : Int} (k : C3 V q x y z) (h : q ≠ b) (o : Nat) (B : Bd) : C3 (layO V b o B) q x y z := k.heap (lay_else h o B)
theorem rightJ_iff {n : Nat} {j : Jt} (h : rightJ n j = true) : ∃ a b : Nat, j.a = a ∧ j.b = b ∧ a < n ∧ b < n ∧ a ≠ b := by
  unfold rightJ at h
  rw [decide_eq_true_iff] at h
  exact ⟨j.a.toNat, j.b.toNat, by omega, by omega, by omega, by omega, by omega⟩
theorem pairE_ok {L : List Bd} {a b : Nat} {r : (Bd × Bd) × Int} (h : r.2 = 0) : pairE L a b r = ((L.set a r.1.1).set b r.1.2, 0) := if_pos h
theorem pairE_no {L : List Bd} {a b : Nat} {r : (Bd × Bd) × Int} (h : ¬ r.2 = 0) : pairE L a b r = ([], r.2) := if_neg h

set_option maxRecDepth 10000 in
set_option maxHeartbeats 8000000 in
theorem pull_any (J : List Jt) (L : List Bd) (base : Nat) (a : Option Addr) (g cap : Nat) (b : Option Addr) (d : Nat) (w : World) (hO : Own w base a g cap L) (hJ : Joints w b J)
    (hne : ∀ x off, b = some ⟨x, off, none⟩ → x ≠ g) (hR : J.all (rightJ L.length) = true) (hm : J.length ≤ 1000) :
    Calls Tryz.prog 43 #[.slice a L.length cap, .slice b J.length d] w fun e w' => Done base a g cap (pullE J L) w e w' := by
  go_enter Tryz.func43, Tryz.ntmps43
  go_wp2_with (fail)
  go_loopw [8] (fun i wr => ∃ (k : Nat) (C : List Bd), k ≤ J.length ∧ i = .int .i64 k ∧ C.length = L.length ∧ Own wr base a g cap C ∧ Hid (pullE J L = upE (jointE J) (J.length - k) k C) ∧ But (fun n => n = g) w wr) (fun i _ => J.length - (intOf i).toNat)
  case atStart => exact ⟨0, L, by omega, rfl, rfl, hO, rfl, But.refl _ _⟩
  case round =>
    obtain ⟨k, C, hk, rfl, hl, hO, HU, hW⟩ := hrel
    by_cases hlt : k < J.length
    · have hi : (k : Int) < (J.length : Int) := by omega
      obtain ⟨i1, i2, e1, e2, l1, l2, h12⟩ := rightJ_iff (List.all_eq_true.1 hR _ (jt_mem hlt))
      have hl1 : i1 < C.length := by omega
      have hl2 : i2 < C.length := by omega
      have hj1 : (i1 : Int) < (L.length : Int) := by omega
      have hj2 : (i2 : Int) < (L.length : Int) := by omega
      obtain rfl := hO.got hl1
      obtain ⟨jb, off, rfl, hj⟩ := hJ.block hlt
      have hjo := hJ.ok _ (jt_mem hlt)
      have hj := hj.heap (hW.block _ hj.size (hne _ _ rfl))
      have ho1 := hO.ok _ (bd_mem hl1)
      have ho2 := hO.ok _ (bd_mem hl2)
      have hb1 := hO.cells hl1
      have hb2 := hO.cells hl2
      have HSt : Hid (∀ r, jointR (bd C i1) (bd C i2) (jt J k).n = r → jointE J k C = pairE C i1 i2 r) := fun r hr => by
        show pairE C _ _ _ = _
        rw [e1, e2, Int.toNat_natCast, Int.toNat_natCast, hr]
      have HNo : Hid (∀ e, (jointE J k C).2 = e → ¬ e = 0 → ¬ (pullE J L).2 = 0 ∧ Ending.panicked [fault e] = .panicked [fault (pullE J L).2]) := fun e he hz => by
        rw [HU.out, upE_no hlt (by rw [he]; exact hz), he]; exact ⟨hz, rfl⟩
      obtain ⟨c0, c1, c2⟩ := hj
      rw [e1] at c0
      rw [e2] at c1
      obtain ⟨n, en⟩ : ∃ n, (jt J k).n = n := ⟨_, rfl⟩
      have hno := hjo.n
      rw [en] at c2 hno HSt
      obtain ⟨B1, eB1⟩ : ∃ B, bd C i1 = B := ⟨_, rfl⟩
      obtain ⟨B2, eB2⟩ : ∃ B, bd C i2 = B := ⟨_, rfl⟩
      have HB2 : Hid (bd C i2 = B2) := eB2
      rw [eB1] at ho1 hb1 HSt
      rw [eB2] at ho2 hb2 HSt
      clear eB1 eB2 en e1 e2 hjo
      have C1 : Hid (∀ W, _) := fun W => waysP_of (t := jointR B1 B2 n) (joint_any B1 B2 n ho1 ho2 hno W)
      have HP : Hid ((jointR B1 B2 n).1.1.ok ∧ (jointR B1 B2 n).1.2.ok) := jointR_ok ho1 ho2 n
      have HS1 : Hid (¬ (jointR B1 B2 n).2 = 0 → (jointE J k C).2 = (jointR B1 B2 n).2) := fun h => by rw [HSt.out _ rfl, pairE_no h]
      have HS2 : Hid ((jointR B1 B2 n).2 = 0 → jointE J k C = ((C.set i1 (jointR B1 B2 n).1.1).set i2 (jointR B1 B2 n).1.2, 0)) := fun h => by rw [HSt.out _ rfl, pairE_ok h]
      clear HSt
      generalize jointR B1 B2 n = T at *
      unfold Bd.val at C1
      have hl2' : ∀ X : Bd, i2 < (C.set i1 X).length := fun X => by rw [List.length_set]; exact hl2
      have hl2' := hl2' T.1.1
      go_upto_region 3 with (fail)
      clear c0 c1 c2
      obtain ⟨V, hV⟩ : ∃ V, V = wr.alloc (.cells #[.int .i64 i1, .int .i64 i2, .int .i64 n] 75) := ⟨_, rfl⟩
      rw [← hV]
      have GV : Grew wr V := by rw [hV]; exact (Grew.refl wr).alloc _ _
      obtain ⟨q, hq⟩ : ∃ q, wr.heap.size = q := ⟨_, rfl⟩
      have hc : C3 V q i1 i2 n := by rw [hV, ← hq]; constructor <;> simp [go_sem]
      have hqg : q ≠ g := by have := (hO.lt hl1).2; omega
      rw [hq]
      clear hV hq
      have hb1 := hb1.grew GV
      have hb2 := hb2.grew GV
      refine lat_region (A := (fun w' => C3 w' q i1 i2 n)) (S := (fun w' => BatO w' g (i1 * 8) B1 ∧ BatO w' g (i2 * 8) B2)) [23, 25] (by kernel_rfl) ?_ (fun hH0 => ?_)
      · exact ⟨hc.grew (Grew.refl V).drew, hb1.grew (Grew.refl V).drew, hb2.grew (Grew.refl V).drew⟩
      refine lat_free (i := 0) (oi := { dst := some 13, op := Go.Op.move (Go.Operand.tmp 0), type := 22, pos := "world.go:119", after := #[], guard := none }) (v := ?va1) rfl (by kernel_rfl) (by kernel_rfl) (by kernel_rfl) (by kernel_rfl) (fun _ _ _ h => h) (Or.inl ⟨by rfl, ?hya1⟩) ⟨hH0.1, fun _ => hH0.2⟩ ?resta1
      case hya1 => (intro w hAw; obtain ⟨c0, c1, c2⟩ := hAw; go_simp; try (with_reducible rfl))
      simp only [Act.put, List.setIfInBounds_toArray, List.set_cons_zero, List.set_cons_succ]
      refine lat_free (i := 1) (oi := { dst := some 14, op := Go.Op.fieldAddr 75 (Go.Operand.tmp 5) 0, type := 0, pos := "world.go:119", after := #[], guard := none }) (v := ?va2) rfl (by kernel_rfl) (by kernel_rfl) (by kernel_rfl) (by kernel_rfl) (fun _ _ _ h => h) (Or.inl ⟨by rfl, ?hya2⟩) ⟨hH0.1, fun _ => hH0.2⟩ ?resta2
      case hya2 => (intro w hAw; obtain ⟨c0, c1, c2⟩ := hAw; go_simp; try (with_reducible rfl))
      simp only [Act.put, List.setIfInBounds_toArray, List.set_cons_zero, List.set_cons_succ]
      refine lat_free (i := 2) (oi := { dst := some 15, op := Go.Op.load 3 (Go.Operand.tmp 14), type := 3, pos := "world.go:119", after := #[{ on := 1, ground := Go.Ground.data }], guard := none }) (v := ?va3) rfl (by kernel_rfl) (by kernel_rfl) (by kernel_rfl) (by kernel_rfl) (fun _ _ _ h => h) (Or.inl ⟨by rfl, ?hya3⟩) ⟨hH0.1, fun _ => hH0.2⟩ ?resta3
      case hya3 => (intro w hAw; obtain ⟨c0, c1, c2⟩ := hAw; go_simp; try (with_reducible rfl))
      simp only [Act.put, List.setIfInBounds_toArray, List.set_cons_zero, List.set_cons_succ]
      refine lat_free (i := 3) (oi := { dst := some 16, op := Go.Op.move (Go.Operand.tmp 0), type := 22, pos := "world.go:119", after := #[{ on := 23, ground := Go.Ground.gcOnly Go.Departure.lateStores }], guard := none }) (v := ?va4) rfl (by kernel_rfl) (by kernel_rfl) (by kernel_rfl) (by kernel_rfl) (fun _ _ _ h => h) (Or.inl ⟨by rfl, ?hya4⟩) ⟨hH0.1, fun _ => hH0.2⟩ ?resta4
      case hya4 => (intro w hAw; obtain ⟨c0, c1, c2⟩ := hAw; go_simp; try (with_reducible rfl))
      simp only [Act.put, List.setIfInBounds_toArray, List.set_cons_zero, List.set_cons_succ]
      refine lat_free (i := 4) (oi := { dst := some 17, op := Go.Op.fieldAddr 75 (Go.Operand.tmp 5) 1, type := 0, pos := "world.go:119", after := #[{ on := 23, ground := Go.Ground.gcOnly Go.Departure.lateStores }], guard := none }) (v := ?va5) rfl (by kernel_rfl) (by kernel_rfl) (by kernel_rfl) (by kernel_rfl) (fun _ _ _ h => h) (Or.inl ⟨by rfl, ?hya5⟩) ⟨hH0.1, fun _ => hH0.2⟩ ?resta5
      case hya5 => (intro w hAw; obtain ⟨c0, c1, c2⟩ := hAw; go_simp; try (with_reducible rfl))
      simp only [Act.put, List.setIfInBounds_toArray, List.set_cons_zero, List.set_cons_succ]
      refine lat_free (i := 5) (oi := { dst := some 18, op := Go.Op.load 3 (Go.Operand.tmp 17), type := 3, pos := "world.go:119", after := #[{ on := 4, ground := Go.Ground.data }, { on := 23, ground := Go.Ground.gcOnly Go.Departure.lateStores }], guard := none }) (v := ?va6) rfl (by kernel_rfl) (by kernel_rfl) (by kernel_rfl) (by kernel_rfl) (fun _ _ _ h => h) (Or.inl ⟨by rfl, ?hya6⟩) ⟨hH0.1, fun _ => hH0.2⟩ ?resta6
      case hya6 => (intro w hAw; obtain ⟨c0, c1, c2⟩ := hAw; go_simp; try (with_reducible rfl))
      simp only [Act.put, List.setIfInBounds_toArray, List.set_cons_zero, List.set_cons_succ]
      refine lat_free (i := 6) (oi := { dst := some 19, op := Go.Op.move (Go.Operand.tmp 0), type := 22, pos := "world.go:119", after := #[], guard := none }) (v := ?va7) rfl (by kernel_rfl) (by kernel_rfl) (by kernel_rfl) (by kernel_rfl) (fun _ _ _ h => h) (Or.inl ⟨by rfl, ?hya7⟩) ⟨hH0.1, fun _ => hH0.2⟩ ?resta7
      case hya7 => (intro w hAw; obtain ⟨c0, c1, c2⟩ := hAw; go_simp; try (with_reducible rfl))
      simp only [Act.put, List.setIfInBounds_toArray, List.set_cons_zero, List.set_cons_succ]
      refine lat_free (i := 7) (oi := { dst := some 20, op := Go.Op.fieldAddr 75 (Go.Operand.tmp 5) 0, type := 0, pos := "world.go:119", after := #[], guard := none }) (v := ?va8) rfl (by kernel_rfl) (by kernel_rfl) (by kernel_rfl) (by kernel_rfl) (fun _ _ _ h => h) (Or.inl ⟨by rfl, ?hya8⟩) ⟨hH0.1, fun _ => hH0.2⟩ ?resta8
      case hya8 => (intro w hAw; obtain ⟨c0, c1, c2⟩ := hAw; go_simp; try (with_reducible rfl))
      simp only [Act.put, List.setIfInBounds_toArray, List.set_cons_zero, List.set_cons_succ]
      refine lat_free (i := 8) (oi := { dst := some 21, op := Go.Op.load 3 (Go.Operand.tmp 20), type := 3, pos := "world.go:119", after := #[{ on := 7, ground := Go.Ground.data }], guard := none }) (v := ?va9) rfl (by kernel_rfl) (by kernel_rfl) (by kernel_rfl) (by kernel_rfl) (fun _ _ _ h => h) (Or.inl ⟨by rfl, ?hya9⟩) ⟨hH0.1, fun _ => hH0.2⟩ ?resta9
      case hya9 => (intro w hAw; obtain ⟨c0, c1, c2⟩ := hAw; go_simp; try (with_reducible rfl))
      simp only [Act.put, List.setIfInBounds_toArray, List.set_cons_zero, List.set_cons_succ]
      refine lat_free (i := 9) (oi := { dst := some 22, op := Go.Op.indexAddr 22 (Go.Operand.tmp 19) (Go.Operand.tmp 21), type := 0, pos := "world.go:119", after := #[{ on := 6, ground := Go.Ground.data }, { on := 8, ground := Go.Ground.data }], guard := none }) (v := ?va10) rfl (by kernel_rfl) (by kernel_rfl) (by kernel_rfl) (by kernel_rfl) (fun _ _ _ h => h) (Or.inl ⟨by rfl, ?hya10⟩) ⟨hH0.1, fun _ => hH0.2⟩ ?resta10
      case hya10 => (intro w hAw; obtain ⟨c0, c1, c2⟩ := hAw; go_simp; try (with_reducible rfl))
      simp only [Act.put, List.setIfInBounds_toArray, List.set_cons_zero, List.set_cons_succ]
      refine lat_take (i := 10) (oi := { dst := some 23, op := Go.Op.load 28 (Go.Operand.tmp 22), type := 28, pos := "world.go:119", after := #[{ on := 9, ground := Go.Ground.data }], guard := none }) (v := ?va11) rfl (by kernel_rfl) (by kernel_rfl) (by kernel_rfl) (by kernel_rfl) (by kernel_rfl) (fun _ _ _ h => h) (Or.inl ⟨by rfl, ?hya11⟩) hH0 ?resta11
      case hya11 => (intro w hSw; obtain ⟨⟨b0, b1, b2, b3, b4, b5, b6, b7⟩, ⟨e0, e1, e2, e3, e4, e5, e6, e7⟩⟩ := hSw; go_simp; try (with_reducible rfl))
      simp only [Act.put, List.setIfInBounds_toArray, List.set_cons_zero, List.set_cons_succ]
      refine lat_free (i := 11) (oi := { dst := some 24, op := Go.Op.move (Go.Operand.tmp 0), type := 22, pos := "world.go:119", after := #[], guard := none }) (v := ?va12) rfl (by kernel_rfl) (by kernel_rfl) (by kernel_rfl) (by kernel_rfl) (fun _ _ _ h => h) (Or.inl ⟨by rfl, ?hya12⟩) ⟨hH0.1, fun _ => hH0.2⟩ ?resta12
      case hya12 => (intro w hAw; obtain ⟨c0, c1, c2⟩ := hAw; go_simp; try (with_reducible rfl))
      simp only [Act.put, List.setIfInBounds_toArray, List.set_cons_zero, List.set_cons_succ]
      refine lat_free (i := 12) (oi := { dst := some 25, op := Go.Op.fieldAddr 75 (Go.Operand.tmp 5) 1, type := 0, pos := "world.go:119", after := #[], guard := none }) (v := ?va13) rfl (by kernel_rfl) (by kernel_rfl) (by kernel_rfl) (by kernel_rfl) (fun _ _ _ h => h) (Or.inl ⟨by rfl, ?hya13⟩) ⟨hH0.1, fun _ => hH0.2⟩ ?resta13
      case hya13 => (intro w hAw; obtain ⟨c0, c1, c2⟩ := hAw; go_simp; try (with_reducible rfl))
      simp only [Act.put, List.setIfInBounds_toArray, List.set_cons_zero, List.set_cons_succ]
      refine lat_free (i := 13) (oi := { dst := some 26, op := Go.Op.load 3 (Go.Operand.tmp 25), type := 3, pos := "world.go:119", after := #[{ on := 12, ground := Go.Ground.data }], guard := none }) (v := ?va14) rfl (by kernel_rfl) (by kernel_rfl) (by kernel_rfl) (by kernel_rfl) (fun _ _ _ h => h) (Or.inl ⟨by rfl, ?hya14⟩) ⟨hH0.1, fun _ => hH0.2⟩ ?resta14
      case hya14 => (intro w hAw; obtain ⟨c0, c1, c2⟩ := hAw; go_simp; try (with_reducible rfl))
      simp only [Act.put, List.setIfInBounds_toArray, List.set_cons_zero, List.set_cons_succ]
      refine lat_free (i := 14) (oi := { dst := some 27, op := Go.Op.indexAddr 22 (Go.Operand.tmp 24) (Go.Operand.tmp 26), type := 0, pos := "world.go:119", after := #[{ on := 11, ground := Go.Ground.data }, { on := 13, ground := Go.Ground.data }], guard := none }) (v := ?va15) rfl (by kernel_rfl) (by kernel_rfl) (by kernel_rfl) (by kernel_rfl) (fun _ _ _ h => h) (Or.inl ⟨by rfl, ?hya15⟩) ⟨hH0.1, fun _ => hH0.2⟩ ?resta15
      case hya15 => (intro w hAw; obtain ⟨c0, c1, c2⟩ := hAw; go_simp; try (with_reducible rfl))
      simp only [Act.put, List.setIfInBounds_toArray, List.set_cons_zero, List.set_cons_succ]
      refine lat_take (i := 15) (oi := { dst := some 28, op := Go.Op.load 28 (Go.Operand.tmp 27), type := 28, pos := "world.go:119", after := #[{ on := 14, ground := Go.Ground.data }], guard := none }) (v := ?va16) rfl (by kernel_rfl) (by kernel_rfl) (by kernel_rfl) (by kernel_rfl) (by kernel_rfl) (fun _ _ _ h => h) (Or.inl ⟨by rfl, ?hya16⟩) hH0 ?resta16
      case hya16 => (intro w hSw; obtain ⟨⟨b0, b1, b2, b3, b4, b5, b6, b7⟩, ⟨e0, e1, e2, e3, e4, e5, e6, e7⟩⟩ := hSw; go_simp; try (with_reducible rfl))
      simp only [Act.put, List.setIfInBounds_toArray, List.set_cons_zero, List.set_cons_succ]
      refine lat_free (i := 16) (oi := { dst := some 29, op := Go.Op.fieldAddr 75 (Go.Operand.tmp 5) 2, type := 0, pos := "world.go:119", after := #[], guard := none }) (v := ?va17) rfl (by kernel_rfl) (by kernel_rfl) (by kernel_rfl) (by kernel_rfl) (fun _ _ _ h => h) (Or.inl ⟨by rfl, ?hya17⟩) ⟨hH0.1, fun _ => hH0.2⟩ ?resta17
      case hya17 => (intro w hAw; obtain ⟨c0, c1, c2⟩ := hAw; go_simp; try (with_reducible rfl))
      simp only [Act.put, List.setIfInBounds_toArray, List.set_cons_zero, List.set_cons_succ]
      refine lat_free (i := 17) (oi := { dst := some 30, op := Go.Op.load 24 (Go.Operand.tmp 29), type := 24, pos := "world.go:119", after := #[{ on := 16, ground := Go.Ground.data }], guard := none }) (v := ?va18) rfl (by kernel_rfl) (by kernel_rfl) (by kernel_rfl) (by kernel_rfl) (fun _ _ _ h => h) (Or.inl ⟨by rfl, ?hya18⟩) ⟨hH0.1, fun _ => hH0.2⟩ ?resta18
      case hya18 => (intro w hAw; obtain ⟨c0, c1, c2⟩ := hAw; go_simp; try (with_reducible rfl))
      simp only [Act.put, List.setIfInBounds_toArray, List.set_cons_zero, List.set_cons_succ]
      refine lat_one (i := 18) (by kernel_rfl) ?_
      refine lat_run (o := { dst := some 31, op := Go.Op.call { callee := Go.Callee.value (Go.Operand.func 58), args := #[Go.Operand.tmp 23, Go.Operand.tmp 28, Go.Operand.tmp 30], argTypes := #[28, 28, 24] }, type := 92, pos := "world.go:119", after := #[{ on := 10, ground := Go.Ground.data }, { on := 15, ground := Go.Ground.data }, { on := 17, ground := Go.Ground.data }], guard := none }) rfl (fun K hK => ?_)
      go_simp
      go_wp2_with (first
        | (go_at_call 58; go_fit (C1.out _); rintro e V1 ⟨(⟨rfl, h1⟩ | ⟨rfl, h1⟩), U1⟩; rotate_left; (exact post_panic (P := Tryz.prog) (fn := Tryz.f43) (R := fun e w' => Done base (some ⟨g, 0, none⟩) g cap (pullE J L) w e w') rfl ⟨(hW.trans (GV.trans ((Grew.refl V).drew.trans U1)).but), .inr (HNo.out _ (HS1.out h1.out) h1.out)⟩))
        | fail)
      refine hK.out _ _ (⟨hH0.1.grew U1, hH0.2.1.grew U1, hH0.2.2.grew U1⟩) (fun hHa19 => ?_)
      clear hK K
      refine lat_free (i := 19) (oi := { dst := some 12, op := Go.Op.move (Go.Operand.tmp 31), type := 92, pos := "world.go:119", after := #[{ on := 18, ground := Go.Ground.data }], guard := none }) (v := ?va20) rfl (by kernel_rfl) (by kernel_rfl) (by kernel_rfl) (by kernel_rfl) (fun _ _ _ h => h) (Or.inl ⟨by rfl, ?hya20⟩) ⟨hHa19.1, fun _ => hHa19.2⟩ ?resta20
      case hya20 => (intro w hAw; obtain ⟨c0, c1, c2⟩ := hAw; go_simp; try (with_reducible rfl))
      simp only [Act.put, List.setIfInBounds_toArray, List.set_cons_zero, List.set_cons_succ]
      refine lat_free (i := 20) (oi := { dst := some 32, op := Go.Op.extract (Go.Operand.tmp 12) 0, type := 28, pos := "world.go:119", after := #[{ on := 19, ground := Go.Ground.data }], guard := none }) (v := ?va21) rfl (by kernel_rfl) (by kernel_rfl) (by kernel_rfl) (by kernel_rfl) (fun _ _ _ h => h) (Or.inl ⟨by rfl, ?hya21⟩) ⟨hHa19.1, fun _ => hHa19.2⟩ ?resta21
      case hya21 => (intro w hAw; obtain ⟨c0, c1, c2⟩ := hAw; go_simp; try (with_reducible rfl))
      simp only [Act.put, List.setIfInBounds_toArray, List.set_cons_zero, List.set_cons_succ]
      refine lat_free (i := 21) (oi := { dst := some 33, op := Go.Op.extract (Go.Operand.tmp 12) 1, type := 28, pos := "world.go:119", after := #[{ on := 19, ground := Go.Ground.data }, { on := 23, ground := Go.Ground.gcOnly Go.Departure.lateStores }], guard := none }) (v := ?va22) rfl (by kernel_rfl) (by kernel_rfl) (by kernel_rfl) (by kernel_rfl) (fun _ _ _ h => h) (Or.inl ⟨by rfl, ?hya22⟩) ⟨hHa19.1, fun _ => hHa19.2⟩ ?resta22
      case hya22 => (intro w hAw; obtain ⟨c0, c1, c2⟩ := hAw; go_simp; try (with_reducible rfl))
      simp only [Act.put, List.setIfInBounds_toArray, List.set_cons_zero, List.set_cons_succ]
      refine lat_free (i := 22) (oi := { dst := some 34, op := Go.Op.indexAddr 22 (Go.Operand.tmp 13) (Go.Operand.tmp 15), type := 0, pos := "world.go:119", after := #[{ on := 0, ground := Go.Ground.data }, { on := 2, ground := Go.Ground.data }, { on := 0, ground := Go.Ground.phase }, { on := 1, ground := Go.Ground.phase }, { on := 2, ground := Go.Ground.phase }, { on := 3, ground := Go.Ground.textOnly Go.Departure.lateStores }, { on := 4, ground := Go.Ground.textOnly Go.Departure.lateStores }, { on := 5, ground := Go.Ground.textOnly Go.Departure.lateStores }, { on := 6, ground := Go.Ground.phase }, { on := 7, ground := Go.Ground.phase }, { on := 8, ground := Go.Ground.phase }, { on := 9, ground := Go.Ground.phase }, { on := 10, ground := Go.Ground.phase }, { on := 11, ground := Go.Ground.phase }, { on := 12, ground := Go.Ground.phase }, { on := 13, ground := Go.Ground.phase }, { on := 14, ground := Go.Ground.phase }, { on := 15, ground := Go.Ground.phase }, { on := 16, ground := Go.Ground.phase }, { on := 17, ground := Go.Ground.phase }, { on := 18, ground := Go.Ground.phase }, { on := 19, ground := Go.Ground.phase }, { on := 20, ground := Go.Ground.phase }, { on := 21, ground := Go.Ground.textOnly Go.Departure.lateStores }], guard := none }) (v := ?va23) rfl (by kernel_rfl) (by kernel_rfl) (by kernel_rfl) (by kernel_rfl) (fun _ _ _ h => h) (Or.inl ⟨by rfl, ?hya23⟩) ⟨hHa19.1, fun _ => hHa19.2⟩ ?resta23
      case hya23 => (intro w hAw; obtain ⟨c0, c1, c2⟩ := hAw; go_simp; try (with_reducible rfl))
      simp only [Act.put, List.setIfInBounds_toArray, List.set_cons_zero, List.set_cons_succ]
      refine lat_one (i := 23) (by kernel_rfl) ?_
      refine lat_write (o := { dst := none, op := Go.Op.store 28 (Go.Operand.tmp 34) (Go.Operand.tmp 32), type := 0, pos := "world.go:119", after := #[{ on := 22, ground := Go.Ground.data }, { on := 20, ground := Go.Ground.data }, { on := 18, ground := Go.Ground.chain }, { on := 0, ground := Go.Ground.phase }, { on := 1, ground := Go.Ground.phase }, { on := 2, ground := Go.Ground.phase }, { on := 3, ground := Go.Ground.textOnly Go.Departure.lateStores }, { on := 4, ground := Go.Ground.textOnly Go.Departure.lateStores }, { on := 5, ground := Go.Ground.textOnly Go.Departure.lateStores }, { on := 6, ground := Go.Ground.phase }, { on := 7, ground := Go.Ground.phase }, { on := 8, ground := Go.Ground.phase }, { on := 9, ground := Go.Ground.phase }, { on := 10, ground := Go.Ground.phase }, { on := 11, ground := Go.Ground.phase }, { on := 12, ground := Go.Ground.phase }, { on := 13, ground := Go.Ground.phase }, { on := 14, ground := Go.Ground.phase }, { on := 15, ground := Go.Ground.phase }, { on := 16, ground := Go.Ground.phase }, { on := 17, ground := Go.Ground.phase }, { on := 18, ground := Go.Ground.phase }, { on := 19, ground := Go.Ground.phase }, { on := 20, ground := Go.Ground.phase }, { on := 21, ground := Go.Ground.textOnly Go.Departure.lateStores }], guard := none }) rfl (by kernel_rfl) (fun K hK => ?_)
      have G1 : Grew wr V1 := GV.trans ((Grew.refl V).drew.trans U1)
      have hO1 := hO.grew G1
      have ⟨a0, a1, a2, a3, a4, a5, a6, a7⟩ := hO1.cells hl1
      have z0 := hO1.free hl1 (i1 * 8)
      have z1 := hO1.free hl1 (i1 * 8 + 1)
      have z2 := hO1.free hl1 (i1 * 8 + 2)
      have z3 := hO1.free hl1 (i1 * 8 + 3)
      have z4 := hO1.free hl1 (i1 * 8 + 4)
      have z5 := hO1.free hl1 (i1 * 8 + 5)
      have z6 := hO1.free hl1 (i1 * 8 + 6)
      have z7 := hO1.free hl1 (i1 * 8 + 7)
      go_simp
      refine hK.out _ _ ((C3.lay hHa19.1 hqg _ _)) (fun hHa24 => ?_)
      clear hK K
      refine lat_free2 (i := 24) (oi := { dst := some 35, op := Go.Op.indexAddr 22 (Go.Operand.tmp 16) (Go.Operand.tmp 18), type := 0, pos := "world.go:119", after := #[{ on := 3, ground := Go.Ground.data }, { on := 5, ground := Go.Ground.data }, { on := 0, ground := Go.Ground.phase }, { on := 1, ground := Go.Ground.phase }, { on := 2, ground := Go.Ground.phase }, { on := 3, ground := Go.Ground.phase }, { on := 4, ground := Go.Ground.phase }, { on := 5, ground := Go.Ground.phase }, { on := 6, ground := Go.Ground.phase }, { on := 7, ground := Go.Ground.phase }, { on := 8, ground := Go.Ground.phase }, { on := 9, ground := Go.Ground.phase }, { on := 10, ground := Go.Ground.phase }, { on := 11, ground := Go.Ground.phase }, { on := 12, ground := Go.Ground.phase }, { on := 13, ground := Go.Ground.phase }, { on := 14, ground := Go.Ground.phase }, { on := 15, ground := Go.Ground.phase }, { on := 16, ground := Go.Ground.phase }, { on := 17, ground := Go.Ground.phase }, { on := 18, ground := Go.Ground.phase }, { on := 19, ground := Go.Ground.phase }, { on := 20, ground := Go.Ground.phase }, { on := 21, ground := Go.Ground.phase }, { on := 22, ground := Go.Ground.phase }, { on := 23, ground := Go.Ground.phase }], guard := none }) (v := ?va25) rfl (by kernel_rfl) (by kernel_rfl) (by kernel_rfl) (by kernel_rfl) (by kernel_rfl) (fun _ _ _ h => h) (Or.inl ⟨by rfl, ?hya25⟩) hHa24 ?resta25
      case hya25 => (intro w hAw; obtain ⟨c0, c1, c2⟩ := hAw; go_simp; try (with_reducible rfl))
      simp only [Act.put, List.setIfInBounds_toArray, List.set_cons_zero, List.set_cons_succ]
      refine lat_one (i := 25) (by kernel_rfl) ?_
      refine lat_write (o := { dst := none, op := Go.Op.store 28 (Go.Operand.tmp 35) (Go.Operand.tmp 33), type := 0, pos := "world.go:119", after := #[{ on := 24, ground := Go.Ground.data }, { on := 21, ground := Go.Ground.data }, { on := 23, ground := Go.Ground.chain }, { on := 0, ground := Go.Ground.phase }, { on := 1, ground := Go.Ground.phase }, { on := 2, ground := Go.Ground.phase }, { on := 3, ground := Go.Ground.phase }, { on := 4, ground := Go.Ground.phase }, { on := 5, ground := Go.Ground.phase }, { on := 6, ground := Go.Ground.phase }, { on := 7, ground := Go.Ground.phase }, { on := 8, ground := Go.Ground.phase }, { on := 9, ground := Go.Ground.phase }, { on := 10, ground := Go.Ground.phase }, { on := 11, ground := Go.Ground.phase }, { on := 12, ground := Go.Ground.phase }, { on := 13, ground := Go.Ground.phase }, { on := 14, ground := Go.Ground.phase }, { on := 15, ground := Go.Ground.phase }, { on := 16, ground := Go.Ground.phase }, { on := 17, ground := Go.Ground.phase }, { on := 18, ground := Go.Ground.phase }, { on := 19, ground := Go.Ground.phase }, { on := 20, ground := Go.Ground.phase }, { on := 21, ground := Go.Ground.phase }, { on := 22, ground := Go.Ground.phase }, { on := 23, ground := Go.Ground.phase }], guard := none }) rfl (by kernel_rfl) (fun K hK => ?_)
      have hO2 := hO1.lay hl1 HP.out.1
      have ⟨d0, d1, d2, d3, d4, d5, d6, d7⟩ := hO2.cells hl2'
      rw [bd_far h12] at d0 d1 d2 d3 d4 d5 d6 d7
      rw [HB2.out] at d0 d1 d2 d3 d4 d5 d6 d7
      unfold layO at d0 d1 d2 d3 d4 d5 d6 d7
      have y0 := hO1.free hl2 (i2 * 8)
      have y1 := hO1.free hl2 (i2 * 8 + 1)
      have y2 := hO1.free hl2 (i2 * 8 + 2)
      have y3 := hO1.free hl2 (i2 * 8 + 3)
      have y4 := hO1.free hl2 (i2 * 8 + 4)
      have y5 := hO1.free hl2 (i2 * 8 + 5)
      have y6 := hO1.free hl2 (i2 * 8 + 6)
      have y7 := hO1.free hl2 (i2 * 8 + 7)
      go_simp
      refine hK.out _ _ ((C3.lay hHa24 hqg _ _)) (fun hHa26 => ?_)
      clear hK K
      refine lat_done (by kernel_rfl) ?_ _
      go_wp2_with (fail)
      have hE := HS2.out h1.out
      have hO3 := hO2.lay hl2' HP.out.2
      refine ⟨⟨k + 1, (C.set i1 T.1.1).set i2 T.1.2, by omega, rfl, by rw [List.length_set, List.length_set]; exact hl, hO3, ?_, ?_⟩, ?_⟩
      · have h4 : (jointE J k C).2 = 0 := by rw [hE]
        have h5 : (jointE J k C).1 = (C.set i1 T.1.1).set i2 T.1.2 := by rw [hE]
        show _ = _
        rw [HU.out, upE_ok hlt h4, h5]
      · exact but_lay (but_lay (hW.trans G1.but) rfl _ _) rfl _ _
      · simp [intOf]; omega
    · have hi : ¬ (k : Int) < (J.length : Int) := by omega
      obtain rfl : k = J.length := by omega
      have hE : Hid (pullE J L = (C, 0)) := by show _ = _; rw [HU.out, Nat.sub_self]; rfl
      clear HU
      go_wp2_with (fail)
      go_end0
      exact ⟨hW, .inl ⟨by rw [hE.out], rfl, by rw [hE.out]; exact hO⟩⟩
end Go.Proofs.YtcoooehcgbohgaaGreat

namespace Go.Proofs.YtcoooehcgbohgaaGreat
open Go.RowKit

theorem move_step (B : Bd) (hm : ¬ B.m = 0) (h : (speedR B).2.2 = 0) : moveB B = put (two (addR B.p (two (partR (speedR B).1 64) (partR (speedR B).2.1 64)).1) (addR B.q (two (partR (speedR B).1 64) (partR (speedR B).2.1 64)).2.1)) B.pos := by
  unfold moveB moveV shareV
  rw [if_neg hm, ifV_ok h, ifV_ok (share_err _)]
theorem move_stop (B : Bd) (hm : ¬ B.m = 0) (h : ¬ (speedR B).2.2 = 0) : (moveB B).2 = (speedR B).2.2 := by
  unfold moveB moveV shareV
  rw [if_neg hm, ifV_no h]
  rw [ifV_no (show ¬ (0, 0, (speedR B).2.2).2.2 = 0 from h)]
  rw [put_no (show ¬ (0, 0, (speedR B).2.2).2.2 = 0 from h)]


set_option maxRecDepth 10000 in
set_option maxHeartbeats 8000000 in
theorem move_any (L : List Bd) (base : Nat) (a : Option Addr) (g cap : Nat) (w : World) (hO : Own w base a g cap L) (hn : L.length ≤ 1000) :
    Calls Tryz.prog 45 #[.slice a L.length cap] w fun e w' => Done base a g cap (movesE L) w e w' := by
  go_enter Tryz.func45, Tryz.ntmps45
  go_wp2_with (fail)
  have hlt0 : ∀ i, i < L.length → g < w.heap.size := fun i hi => (hO.lt hi).2
  go_loopw [5] (fun i wr => ∃ (k : Nat) (C : List Bd), k ≤ L.length ∧ i = .int .i64 k ∧ C.length = L.length ∧ Own wr base a g cap C ∧ Hid (movesE L = upE (moveE) (L.length - k) k C) ∧ But (fun n => n = g) w wr) (fun i _ => L.length - (intOf i).toNat)
  case atStart => exact ⟨0, L, by omega, rfl, rfl, hO, rfl, But.refl _ _⟩
  case round =>
    obtain ⟨k, C, hk, rfl, hl, hO, HU, hW⟩ := hrel
    by_cases hlt : k < L.length
    · have hi : (k : Int) < (L.length : Int) := by omega
      have hlt' : k < C.length := by omega
      have ho := hO.ok _ (bd_mem hlt')
      have hb := hO.cells hlt'
      obtain rfl := hO.got hlt'
      have HE : Hid (moveE k C = putE C k (moveB (bd C k))) := rfl
      have HSt : Hid (∀ r, moveB (bd C k) = r → (moveE k C) = putE C k r) := fun r hr => by show putE C k _ = _; rw [hr]
      have HNo : Hid (∀ e, (moveE k C).2 = e → ¬ e = 0 → ¬ (movesE L).2 = 0 ∧ Ending.panicked [fault e] = .panicked [fault (movesE L).2]) := fun e he hz => by
        rw [HU.out, upE_no hlt (by rw [he]; exact hz), he]; exact ⟨hz, rfl⟩
      obtain ⟨B, eB⟩ : ∃ B, bd C k = B := ⟨_, rfl⟩
      have HBk : Hid (bd C k = B) := eB
      rw [eB] at ho hb HE HSt
      clear eB
      by_cases hm : B.m = 0
      · have h0 : (moveE k C) = (C, 0) := by
          rw [HE.out]
          unfold putE moveB
          rw [if_pos hm, if_pos rfl, ← HBk.out, set_bd hlt']
        obtain ⟨b0, b1, b2, b3, b4, b5, b6, b7⟩ := hb
        rw [hm] at b3
        have H0 : Hid _ := h0
        clear h0
        go_wp2_with (fail)
        refine ⟨⟨k + 1, C, by omega, rfl, hl, hO, ?_, hW⟩, ?_⟩
        · show _ = _
          have h4 : (moveE k C).2 = 0 := by rw [H0.out]
          rw [HU.out, upE_ok hlt h4, H0.out]
        · simp [intOf]; omega
      · have hm' : (B.m != 0) = true := by simpa using hm
        have C1 : Hid (∀ W, _) := fun W => waysV_of (t := speedR B) (shape_speed B ho W)
        have HZ : Hid ((two (partR (speedR B).1 64) (partR (speedR B).2.1 64)).2.2 = 0) := share_err _
        have HS1 : Hid (¬ (speedR B).2.2 = 0 → (moveE k C).2 = (speedR B).2.2) := fun h => by
          rw [HE.out]
          have := move_stop B hm h
          unfold putE
          rw [this, if_neg h]
        have HS3 : Hid ((speedR B).2.2 = 0 → ¬ (two (addR B.p (two (partR (speedR B).1 64) (partR (speedR B).2.1 64)).1) (addR B.q (two (partR (speedR B).1 64) (partR (speedR B).2.1 64)).2.1)).2.2 = 0 → (moveE k C).2 = (two (addR B.p (two (partR (speedR B).1 64) (partR (speedR B).2.1 64)).1) (addR B.q (two (partR (speedR B).1 64) (partR (speedR B).2.1 64)).2.1)).2.2) := fun h g => by
          rw [HSt.out _ (move_step B hm h), put_no g]
          exact congrArg Prod.snd (if_neg g)
        have HS2 : Hid ((speedR B).2.2 = 0 → (two (addR B.p (two (partR (speedR B).1 64) (partR (speedR B).2.1 64)).1) (addR B.q (two (partR (speedR B).1 64) (partR (speedR B).2.1 64)).2.1)).2.2 = 0 → (moveE k C) = (C.set k (B.pos (two (addR B.p (two (partR (speedR B).1 64) (partR (speedR B).2.1 64)).1) (addR B.q (two (partR (speedR B).1 64) (partR (speedR B).2.1 64)).2.1)).1 (two (addR B.p (two (partR (speedR B).1 64) (partR (speedR B).2.1 64)).1) (addR B.q (two (partR (speedR B).1 64) (partR (speedR B).2.1 64)).2.1)).2.1), 0)) := fun h g => by
          rw [HSt.out _ (move_step B hm h), put_ok g]; rfl
        have i1 : inF (speedR B).1 ∧ inF (speedR B).2.1 := speedR_in B
        generalize speedR B = T1 at *
        have C2 : Hid (∀ W, _) := fun W => waysV_of (vshare_any T1.1 T1.2.1 64 W i1.1 i1.2 ⟨by decide, by decide⟩)
        have i2 : inF (two (partR T1.1 64) (partR T1.2.1 64)).1 ∧ inF (two (partR T1.1 64) (partR T1.2.1 64)).2.1 := two_in (tdiv64_in i1.1) (tdiv64_in i1.2)
        generalize two (partR T1.1 64) (partR T1.2.1 64) = T2 at *
        have C3 : Hid (∀ W, _) := fun W => waysV_of (vadd_any B.p B.q T2.1 T2.2.1 W ho.p ho.q i2.1 i2.2)
        have HI : Hid (inF (two (addR B.p T2.1) (addR B.q T2.2.1)).1 ∧ inF (two (addR B.p T2.1) (addR B.q T2.2.1)).2.1) := two_in (addR_in _ _) (addR_in _ _)
        generalize two (addR B.p T2.1) (addR B.q T2.2.1) = T3 at *
        unfold vec at C1 C2 C3
        unfold Bd.val at C1
        clear i1 i2 ho
        go_upto_region 3 with (fail)
        obtain ⟨b0, b1, b2, b3, b4, b5, b6, b7⟩ := hb
        go_upto_region 4 with (fail)
        have hb : BatO wr g (k * 8) B := ⟨b0, b1, b2, b3, b4, b5, b6, b7⟩
        clear b0 b1 b2 b3 b4 b5 b6 b7
        refine late_region (S := (fun w' => BatO w' g (k * 8) B)) [16] (by kernel_rfl) ?_ (fun hH0 => ?_)
        · exact hb.grew (Grew.refl wr).drew
        refine late_take (i := 0) (oi := { dst := some 14, op := Go.Op.move (Go.Operand.tmp 0), type := 22, pos := "world.go:136", after := #[], guard := none }) (v := ?va1) rfl (by kernel_rfl) (by kernel_rfl) (by kernel_rfl) (by kernel_rfl) (by kernel_rfl) (fun _ _ _ h => h) (Or.inl ⟨by rfl, ?hya1⟩) hH0 ?resta1
        case hya1 => (intro w hSw; obtain ⟨b0, b1, b2, b3, b4, b5, b6, b7⟩ := hSw; go_simp; try (with_reducible rfl))
        simp only [Act.put, List.setIfInBounds_toArray, List.set_cons_zero, List.set_cons_succ]
        refine late_take (i := 1) (oi := { dst := some 15, op := Go.Op.move (Go.Operand.tmp 2), type := 3, pos := "world.go:136", after := #[], guard := none }) (v := ?va2) rfl (by kernel_rfl) (by kernel_rfl) (by kernel_rfl) (by kernel_rfl) (by kernel_rfl) (fun _ _ _ h => h) (Or.inl ⟨by rfl, ?hya2⟩) hH0 ?resta2
        case hya2 => (intro w hSw; obtain ⟨b0, b1, b2, b3, b4, b5, b6, b7⟩ := hSw; go_simp; try (with_reducible rfl))
        simp only [Act.put, List.setIfInBounds_toArray, List.set_cons_zero, List.set_cons_succ]
        refine late_take (i := 2) (oi := { dst := some 16, op := Go.Op.move (Go.Operand.tmp 0), type := 22, pos := "world.go:136", after := #[], guard := none }) (v := ?va3) rfl (by kernel_rfl) (by kernel_rfl) (by kernel_rfl) (by kernel_rfl) (by kernel_rfl) (fun _ _ _ h => h) (Or.inl ⟨by rfl, ?hya3⟩) hH0 ?resta3
        case hya3 => (intro w hSw; obtain ⟨b0, b1, b2, b3, b4, b5, b6, b7⟩ := hSw; go_simp; try (with_reducible rfl))
        simp only [Act.put, List.setIfInBounds_toArray, List.set_cons_zero, List.set_cons_succ]
        refine late_take (i := 3) (oi := { dst := some 17, op := Go.Op.move (Go.Operand.tmp 2), type := 3, pos := "world.go:136", after := #[], guard := none }) (v := ?va4) rfl (by kernel_rfl) (by kernel_rfl) (by kernel_rfl) (by kernel_rfl) (by kernel_rfl) (fun _ _ _ h => h) (Or.inl ⟨by rfl, ?hya4⟩) hH0 ?resta4
        case hya4 => (intro w hSw; obtain ⟨b0, b1, b2, b3, b4, b5, b6, b7⟩ := hSw; go_simp; try (with_reducible rfl))
        simp only [Act.put, List.setIfInBounds_toArray, List.set_cons_zero, List.set_cons_succ]
        refine late_take (i := 4) (oi := { dst := some 18, op := Go.Op.indexAddr 22 (Go.Operand.tmp 16) (Go.Operand.tmp 17), type := 0, pos := "world.go:136", after := #[{ on := 2, ground := Go.Ground.data }, { on := 3, ground := Go.Ground.data }], guard := none }) (v := ?va5) rfl (by kernel_rfl) (by kernel_rfl) (by kernel_rfl) (by kernel_rfl) (by kernel_rfl) (fun _ _ _ h => h) (Or.inl ⟨by rfl, ?hya5⟩) hH0 ?resta5
        case hya5 => (intro w hSw; obtain ⟨b0, b1, b2, b3, b4, b5, b6, b7⟩ := hSw; go_simp; try (with_reducible rfl))
        simp only [Act.put, List.setIfInBounds_toArray, List.set_cons_zero, List.set_cons_succ]
        refine late_take (i := 5) (oi := { dst := some 19, op := Go.Op.fieldAddr 28 (Go.Operand.tmp 18) 3, type := 0, pos := "world.go:136", after := #[{ on := 4, ground := Go.Ground.data }], guard := none }) (v := ?va6) rfl (by kernel_rfl) (by kernel_rfl) (by kernel_rfl) (by kernel_rfl) (by kernel_rfl) (fun _ _ _ h => h) (Or.inl ⟨by rfl, ?hya6⟩) hH0 ?resta6
        case hya6 => (intro w hSw; obtain ⟨b0, b1, b2, b3, b4, b5, b6, b7⟩ := hSw; go_simp; try (with_reducible rfl))
        simp only [Act.put, List.setIfInBounds_toArray, List.set_cons_zero, List.set_cons_succ]
        refine late_take (i := 6) (oi := { dst := some 20, op := Go.Op.load 26 (Go.Operand.tmp 19), type := 26, pos := "world.go:136", after := #[{ on := 5, ground := Go.Ground.data }], guard := none }) (v := ?va7) rfl (by kernel_rfl) (by kernel_rfl) (by kernel_rfl) (by kernel_rfl) (by kernel_rfl) (fun _ _ _ h => h) (Or.inl ⟨by rfl, ?hya7⟩) hH0 ?resta7
        case hya7 => (intro w hSw; obtain ⟨b0, b1, b2, b3, b4, b5, b6, b7⟩ := hSw; go_simp; try (with_reducible rfl))
        simp only [Act.put, List.setIfInBounds_toArray, List.set_cons_zero, List.set_cons_succ]
        refine late_take (i := 7) (oi := { dst := some 21, op := Go.Op.move (Go.Operand.tmp 0), type := 22, pos := "world.go:136", after := #[], guard := none }) (v := ?va8) rfl (by kernel_rfl) (by kernel_rfl) (by kernel_rfl) (by kernel_rfl) (by kernel_rfl) (fun _ _ _ h => h) (Or.inl ⟨by rfl, ?hya8⟩) hH0 ?resta8
        case hya8 => (intro w hSw; obtain ⟨b0, b1, b2, b3, b4, b5, b6, b7⟩ := hSw; go_simp; try (with_reducible rfl))
        simp only [Act.put, List.setIfInBounds_toArray, List.set_cons_zero, List.set_cons_succ]
        refine late_take (i := 8) (oi := { dst := some 22, op := Go.Op.move (Go.Operand.tmp 2), type := 3, pos := "world.go:136", after := #[], guard := none }) (v := ?va9) rfl (by kernel_rfl) (by kernel_rfl) (by kernel_rfl) (by kernel_rfl) (by kernel_rfl) (fun _ _ _ h => h) (Or.inl ⟨by rfl, ?hya9⟩) hH0 ?resta9
        case hya9 => (intro w hSw; obtain ⟨b0, b1, b2, b3, b4, b5, b6, b7⟩ := hSw; go_simp; try (with_reducible rfl))
        simp only [Act.put, List.setIfInBounds_toArray, List.set_cons_zero, List.set_cons_succ]
        refine late_take (i := 9) (oi := { dst := some 23, op := Go.Op.indexAddr 22 (Go.Operand.tmp 21) (Go.Operand.tmp 22), type := 0, pos := "world.go:136", after := #[{ on := 7, ground := Go.Ground.data }, { on := 8, ground := Go.Ground.data }], guard := none }) (v := ?va10) rfl (by kernel_rfl) (by kernel_rfl) (by kernel_rfl) (by kernel_rfl) (by kernel_rfl) (fun _ _ _ h => h) (Or.inl ⟨by rfl, ?hya10⟩) hH0 ?resta10
        case hya10 => (intro w hSw; obtain ⟨b0, b1, b2, b3, b4, b5, b6, b7⟩ := hSw; go_simp; try (with_reducible rfl))
        simp only [Act.put, List.setIfInBounds_toArray, List.set_cons_zero, List.set_cons_succ]
        refine late_take (i := 10) (oi := { dst := some 24, op := Go.Op.load 28 (Go.Operand.tmp 23), type := 28, pos := "world.go:136", after := #[{ on := 9, ground := Go.Ground.data }], guard := none }) (v := ?va11) rfl (by kernel_rfl) (by kernel_rfl) (by kernel_rfl) (by kernel_rfl) (by kernel_rfl) (fun _ _ _ h => h) (Or.inl ⟨by rfl, ?hya11⟩) hH0 ?resta11
        case hya11 => (intro w hSw; obtain ⟨b0, b1, b2, b3, b4, b5, b6, b7⟩ := hSw; go_simp; try (with_reducible rfl))
        simp only [Act.put, List.setIfInBounds_toArray, List.set_cons_zero, List.set_cons_succ]
        refine late_one (i := 11) (by kernel_rfl) ?_
        refine late_run (o := { dst := some 25, op := Go.Op.call { callee := Go.Callee.value (Go.Operand.func 63), args := #[Go.Operand.tmp 24], argTypes := #[28] }, type := 26, pos := "world.go:136", after := #[{ on := 10, ground := Go.Ground.data }], guard := none }) rfl (fun K hK => ?_)
        go_simp
        go_wp2_with (first
          | (go_at_call 63; go_fit (C1.out _); rintro e V1 ⟨(⟨rfl, h1⟩ | ⟨rfl, h1⟩), U1⟩; rotate_left; (exact post_panic (P := Tryz.prog) (fn := Tryz.f45) (R := fun e w' => Done base (some ⟨g, 0, none⟩) g cap (movesE L) w e w') rfl ⟨(hW.trans ((Grew.refl wr).drew.trans U1).but), .inr (HNo.out _ (HS1.out h1.out) h1.out)⟩))
          | fail)
        refine hK.out _ _ (hH0.grew U1) (fun hHa12 => ?_)
        clear hK K
        refine late_one (i := 12) (by kernel_rfl) ?_
        refine late_run (o := { dst := some 26, op := Go.Op.call { callee := Go.Callee.value (Go.Operand.func 56), args := #[Go.Operand.tmp 25, Go.Operand.const (Go.Value.int Go.IntKind.i64 64)], argTypes := #[26, 3] }, type := 26, pos := "world.go:136", after := #[{ on := 11, ground := Go.Ground.data }, { on := 11, ground := Go.Ground.chain }], guard := none }) rfl (fun K hK => ?_)
        go_simp
        go_wp2_with (first
          | (go_at_call 56; go_fit (C2.out _); rintro e V2 ⟨(⟨rfl, h2⟩ | ⟨rfl, h2⟩), U2⟩; rotate_left; (exact absurd (HZ.out) h2.out))
          | fail)
        refine hK.out _ _ (hHa12.grew U2) (fun hHa13 => ?_)
        clear hK K
        refine late_one (i := 13) (by kernel_rfl) ?_
        refine late_run (o := { dst := some 27, op := Go.Op.call { callee := Go.Callee.value (Go.Operand.func 29), args := #[Go.Operand.tmp 20, Go.Operand.tmp 26], argTypes := #[26, 26] }, type := 26, pos := "world.go:136", after := #[{ on := 6, ground := Go.Ground.data }, { on := 12, ground := Go.Ground.data }, { on := 12, ground := Go.Ground.chain }], guard := none }) rfl (fun K hK => ?_)
        go_simp
        go_wp2_with (first
          | (go_at_call 29; go_fit (C3.out _); rintro e V3 ⟨(⟨rfl, h3⟩ | ⟨rfl, h3⟩), U3⟩; rotate_left; (exact post_panic (P := Tryz.prog) (fn := Tryz.f45) (R := fun e w' => Done base (some ⟨g, 0, none⟩) g cap (movesE L) w e w') rfl ⟨(hW.trans ((((Grew.refl wr).drew.trans U1).trans U2).trans U3).but), .inr (HNo.out _ (HS3.out h1.out h3.out) h3.out)⟩))
          | fail)
        refine hK.out _ _ (hHa13.grew U3) (fun hHa14 => ?_)
        clear hK K
        refine late_one (i := 14) (by kernel_rfl) ?_
        refine late_run (o := { dst := some 28, op := Go.Op.indexAddr 22 (Go.Operand.tmp 14) (Go.Operand.tmp 15), type := 0, pos := "world.go:136", after := #[{ on := 0, ground := Go.Ground.data }, { on := 1, ground := Go.Ground.data }, { on := 0, ground := Go.Ground.phase }, { on := 1, ground := Go.Ground.phase }, { on := 2, ground := Go.Ground.phase }, { on := 3, ground := Go.Ground.phase }, { on := 4, ground := Go.Ground.phase }, { on := 5, ground := Go.Ground.phase }, { on := 6, ground := Go.Ground.phase }, { on := 7, ground := Go.Ground.phase }, { on := 8, ground := Go.Ground.phase }, { on := 9, ground := Go.Ground.phase }, { on := 10, ground := Go.Ground.phase }, { on := 11, ground := Go.Ground.phase }, { on := 12, ground := Go.Ground.phase }, { on := 13, ground := Go.Ground.phase }], guard := none }) rfl (fun K hK => ?_)
        go_simp
        refine hK.out _ _ hHa14 (fun hHa15 => ?_)
        clear hK K
        refine late_take (i := 15) (oi := { dst := some 29, op := Go.Op.fieldAddr 28 (Go.Operand.tmp 28) 3, type := 0, pos := "world.go:136", after := #[{ on := 14, ground := Go.Ground.data }, { on := 0, ground := Go.Ground.phase }, { on := 1, ground := Go.Ground.phase }, { on := 2, ground := Go.Ground.phase }, { on := 3, ground := Go.Ground.phase }, { on := 4, ground := Go.Ground.phase }, { on := 5, ground := Go.Ground.phase }, { on := 6, ground := Go.Ground.phase }, { on := 7, ground := Go.Ground.phase }, { on := 8, ground := Go.Ground.phase }, { on := 9, ground := Go.Ground.phase }, { on := 10, ground := Go.Ground.phase }, { on := 11, ground := Go.Ground.phase }, { on := 12, ground := Go.Ground.phase }, { on := 13, ground := Go.Ground.phase }], guard := none }) (v := ?va16) rfl (by kernel_rfl) (by kernel_rfl) (by kernel_rfl) (by kernel_rfl) (by kernel_rfl) (fun _ _ _ h => h) (Or.inl ⟨by rfl, ?hya16⟩) hHa15 ?resta16
        case hya16 => (intro w hSw; obtain ⟨b0, b1, b2, b3, b4, b5, b6, b7⟩ := hSw; go_simp; try (with_reducible rfl))
        simp only [Act.put, List.setIfInBounds_toArray, List.set_cons_zero, List.set_cons_succ]
        refine late_one (i := 16) (by kernel_rfl) ?_
        refine late_write (o := { dst := none, op := Go.Op.store 26 (Go.Operand.tmp 29) (Go.Operand.tmp 27), type := 0, pos := "world.go:136", after := #[{ on := 15, ground := Go.Ground.data }, { on := 13, ground := Go.Ground.data }, { on := 13, ground := Go.Ground.chain }, { on := 0, ground := Go.Ground.phase }, { on := 1, ground := Go.Ground.phase }, { on := 2, ground := Go.Ground.phase }, { on := 3, ground := Go.Ground.phase }, { on := 4, ground := Go.Ground.phase }, { on := 5, ground := Go.Ground.phase }, { on := 6, ground := Go.Ground.phase }, { on := 7, ground := Go.Ground.phase }, { on := 8, ground := Go.Ground.phase }, { on := 9, ground := Go.Ground.phase }, { on := 10, ground := Go.Ground.phase }, { on := 11, ground := Go.Ground.phase }, { on := 12, ground := Go.Ground.phase }, { on := 13, ground := Go.Ground.phase }], guard := none }) rfl (by kernel_rfl) (fun K hK => ?_)
        have G3 : Grew wr V3 := (((Grew.refl wr).drew.trans U1).trans U2).trans U3
        have hO3 := hO.grew G3
        have ⟨a0, a1, a2, a3, a4, a5, a6, a7⟩ := hO3.cells hlt'
        have z1 := hO3.free hlt' (k * 8 + 4)
        have z2 := hO3.free hlt' (k * 8 + 5)
        go_simp
        refine hK.out _ _ ?_
        clear hK K
        refine late_done (by kernel_rfl) ?_ _
        go_wp2_with (fail)
        have hE := HS2.out h1.out h3.out
        refine ⟨⟨k + 1, C.set k (B.pos T3.1 T3.2.1), by omega, rfl, by rw [List.length_set]; exact hl, ?_, ?_, ?_⟩, ?_⟩
        · have := hO3.pos hlt' HI.out.1 HI.out.2
          rw [HBk.out] at this
          exact this
        · have h4 : (moveE k C).2 = 0 := by rw [hE]
          have h5 : (moveE k C).1 = C.set k (B.pos T3.1 T3.2.1) := by rw [hE]
          show _ = _
          rw [HU.out, upE_ok hlt h4, h5]
        · exact (((hW.trans G3.but).set rfl _ _ _).set rfl _ _ _)
        · simp [intOf]; omega
    · have hi : ¬ (k : Int) < (L.length : Int) := by omega
      obtain rfl : k = L.length := by omega
      have hE : Hid (movesE L = (C, 0)) := by show _ = _; rw [HU.out, Nat.sub_self]; rfl
      clear HU
      go_wp2_with (fail)
      go_end0
      exact ⟨hW, .inl ⟨by rw [hE.out], rfl, by rw [hE.out]; exact hO⟩⟩
end Go.Proofs.YtcoooehcgbohgaaGreat
