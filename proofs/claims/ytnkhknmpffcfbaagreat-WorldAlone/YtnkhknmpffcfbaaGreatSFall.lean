/-
  What world.fall does: the bodies as the plain function says, or a panic of a Fault; their block alone is written.
-/
import Derived.Test.YtnkhknmpffcfbaaGreatSLaw
import Derived.Test.YtnkhknmpffcfbaaGreatSMem
import Derived.Test.YtnkhknmpffcfbaaGreatVUnit
import Derived.Test.YtnkhknmpffcfbaaGreatJLate
import Derived.Deep.QuietTactic
import Derived.BigQuiet
import Derived.Deep.CutRange
import Derived.Deep.CutBlock
namespace Go.Proofs.YtnkhknmpffcfbaaGreat
open Go.RowKit

/-- How a call ends that writes bodies where they are: the bodies L in block g became those of r; or it throws r's error. -/
def Done (base : Nat) (a : Option Addr) (g cap : Nat) (r : List Bd × Int) (w : World) (e : Ending) (w' : World) : Prop :=
  But (fun n => n = g) w w' ∧ ((r.2 = 0 ∧ e = .returned (.tuple #[]) ∧ Own w' base a g cap r.1) ∨ (¬ r.2 = 0 ∧ e = .panicked [fault r.2]))
theorem share_err (t : Int × Int × Int) : (two (partR t.1 64) (partR t.2.1 64)).2.2 = 0 := by
  unfold partR
  rw [if_neg (by decide), if_neg (by omega), if_neg (by decide), if_neg (by omega)]; rfl
theorem two_ok_in {r s : Int × Int} (h : inF r.1) (g : inF s.1) : inF (two r s).1 ∧ inF (two r s).2.1 := two_in h g
theorem tdiv64_in {v : Int} (h : inF v) : inF (partR v 64).1 := by
  unfold partR
  rw [if_neg (by decide), if_neg (by omega)]
  exact tdiv_in h (by decide) (by omega)

theorem fall_step (x y : Int) (B : Bd) (hm : ¬ B.m = 0) (h : (scaleV x y B.m).2.2 = 0) : fallB x y B = put (two (addR B.u (two (partR (scaleV x y B.m).1 64) (partR (scaleV x y B.m).2.1 64)).1) (addR B.v (two (partR (scaleV x y B.m).1 64) (partR (scaleV x y B.m).2.1 64)).2.1)) B.mom := by
  unfold fallB fallV gainV shareV
  rw [if_neg hm, ifV_ok h, ifV_ok (share_err _)]
theorem fall_stop (x y : Int) (B : Bd) (hm : ¬ B.m = 0) (h : ¬ (scaleV x y B.m).2.2 = 0) : (fallB x y B).2 = (scaleV x y B.m).2.2 := by
  unfold fallB fallV gainV shareV
  rw [if_neg hm, ifV_no h]
  rw [ifV_no (show ¬ (0, 0, (scaleV x y B.m).2.2).2.2 = 0 from h)]
  rw [put_no (show ¬ (0, 0, (scaleV x y B.m).2.2).2.2 = 0 from h)]


set_option maxRecDepth 10000 in
set_option maxHeartbeats 8000000 in
theorem fall_any (x y : Int) (hx : inF x) (hy : inF y) (L : List Bd) (base : Nat) (a : Option Addr) (g cap : Nat) (w : World) (hO : Own w base a g cap L) (hn : L.length ≤ 1000) :
    Calls Tryz.prog 53 #[.slice a L.length cap, vec x y] w fun e w' => Done base a g cap (fallsE x y L) w e w' := by
  unfold vec
  go_enter Tryz.func53, Tryz.ntmps53
  go_wp2_with (fail)
  have hlt0 : ∀ i, i < L.length → g < w.heap.size := fun i hi => (hO.lt hi).2
  go_loopw [7] (fun i wr => ∃ (k : Nat) (C : List Bd), k ≤ L.length ∧ i = .int .i64 k ∧ C.length = L.length ∧ Own wr base a g cap C ∧ Hid (fallsE x y L = upE (fallE x y) (L.length - k) k C) ∧ But (fun n => n = g) w wr ∧ At wr w.heap.size x y) (fun i _ => L.length - (intOf i).toNat)
  case atStart => exact ⟨0, L, by omega, rfl, rfl, hO.grew ((Grew.refl w).alloc _ _), rfl, ((Grew.refl w).alloc _ _).but, by constructor <;> simp [go_sem]⟩
  case round =>
    obtain ⟨k, C, hk, rfl, hl, hO, HU, hW, hg⟩ := hrel
    by_cases hlt : k < L.length
    · have hi : (k : Int) < (L.length : Int) := by omega
      have hlt' : k < C.length := by omega
      have ho := hO.ok _ (bd_mem hlt')
      have hb := hO.cells hlt'
      obtain rfl := hO.got hlt'
      have HE : Hid (fallE x y k C = putE C k (fallB x y (bd C k))) := rfl
      have HSt : Hid (∀ r, fallB x y (bd C k) = r → (fallE x y k C) = putE C k r) := fun r hr => by show putE C k _ = _; rw [hr]
      have HNo : Hid (∀ e, (fallE x y k C).2 = e → ¬ e = 0 → ¬ (fallsE x y L).2 = 0 ∧ Ending.panicked [fault e] = .panicked [fault (fallsE x y L).2]) := fun e he hz => by
        rw [HU.out, upE_no hlt (by rw [he]; exact hz), he]; exact ⟨hz, rfl⟩
      obtain ⟨B, eB⟩ : ∃ B, bd C k = B := ⟨_, rfl⟩
      have HBk : Hid (bd C k = B) := eB
      rw [eB] at ho hb HE HSt
      clear eB
      by_cases hm : B.m = 0
      · have h0 : (fallE x y k C) = (C, 0) := by
          rw [HE.out]
          unfold putE fallB
          rw [if_pos hm, if_pos rfl, ← HBk.out, set_bd hlt']
        obtain ⟨b0, b1, b2, b3, b4, b5, b6, b7⟩ := hb
        rw [hm] at b3
        have H0 : Hid _ := h0
        clear h0
        go_wp2_with (fail)
        refine ⟨⟨k + 1, C, by omega, rfl, hl, hO, ?_, hW, hg⟩, ?_⟩
        · show _ = _
          have h4 : (fallE x y k C).2 = 0 := by rw [H0.out]
          rw [HU.out, upE_ok hlt h4, H0.out]
        · simp [intOf]; omega
      · have hm' : (B.m != 0) = true := by simpa using hm
        have C1 : Hid (∀ W, _) := fun W => waysV_of (t := scaleV x y B.m) (vscale_any x y B.m W hx hy ho.m)
        have HZ : Hid ((two (partR (scaleV x y B.m).1 64) (partR (scaleV x y B.m).2.1 64)).2.2 = 0) := share_err _
        have HS1 : Hid (¬ (scaleV x y B.m).2.2 = 0 → (fallE x y k C).2 = (scaleV x y B.m).2.2) := fun h => by
          rw [HE.out]
          have := fall_stop x y B hm h
          unfold putE
          rw [this, if_neg h]
        have HS3 : Hid ((scaleV x y B.m).2.2 = 0 → ¬ (two (addR B.u (two (partR (scaleV x y B.m).1 64) (partR (scaleV x y B.m).2.1 64)).1) (addR B.v (two (partR (scaleV x y B.m).1 64) (partR (scaleV x y B.m).2.1 64)).2.1)).2.2 = 0 → (fallE x y k C).2 = (two (addR B.u (two (partR (scaleV x y B.m).1 64) (partR (scaleV x y B.m).2.1 64)).1) (addR B.v (two (partR (scaleV x y B.m).1 64) (partR (scaleV x y B.m).2.1 64)).2.1)).2.2) := fun h g => by
          rw [HSt.out _ (fall_step x y B hm h), put_no g]
          exact congrArg Prod.snd (if_neg g)
        have HS2 : Hid ((scaleV x y B.m).2.2 = 0 → (two (addR B.u (two (partR (scaleV x y B.m).1 64) (partR (scaleV x y B.m).2.1 64)).1) (addR B.v (two (partR (scaleV x y B.m).1 64) (partR (scaleV x y B.m).2.1 64)).2.1)).2.2 = 0 → (fallE x y k C) = (C.set k (B.mom (two (addR B.u (two (partR (scaleV x y B.m).1 64) (partR (scaleV x y B.m).2.1 64)).1) (addR B.v (two (partR (scaleV x y B.m).1 64) (partR (scaleV x y B.m).2.1 64)).2.1)).1 (two (addR B.u (two (partR (scaleV x y B.m).1 64) (partR (scaleV x y B.m).2.1 64)).1) (addR B.v (two (partR (scaleV x y B.m).1 64) (partR (scaleV x y B.m).2.1 64)).2.1)).2.1), 0)) := fun h g => by
          rw [HSt.out _ (fall_step x y B hm h), put_ok g]; rfl
        have i1 : inF (scaleV x y B.m).1 ∧ inF (scaleV x y B.m).2.1 := scaleV_in x y B.m
        generalize scaleV x y B.m = T1 at *
        have C2 : Hid (∀ W, _) := fun W => waysV_of (vshare_any T1.1 T1.2.1 64 W i1.1 i1.2 ⟨by decide, by decide⟩)
        have i2 : inF (two (partR T1.1 64) (partR T1.2.1 64)).1 ∧ inF (two (partR T1.1 64) (partR T1.2.1 64)).2.1 := two_in (tdiv64_in i1.1) (tdiv64_in i1.2)
        generalize two (partR T1.1 64) (partR T1.2.1 64) = T2 at *
        have C3 : Hid (∀ W, _) := fun W => waysV_of (vadd_any B.u B.v T2.1 T2.2.1 W ho.u ho.v i2.1 i2.2)
        have HI : Hid (inF (two (addR B.u T2.1) (addR B.v T2.2.1)).1 ∧ inF (two (addR B.u T2.1) (addR B.v T2.2.1)).2.1) := two_in (addR_in _ _) (addR_in _ _)
        generalize two (addR B.u T2.1) (addR B.v T2.2.1) = T3 at *
        unfold vec at C1 C2 C3
        clear i1 i2 ho
        go_upto_region 4 with (fail)
        obtain ⟨b0, b1, b2, b3, b4, b5, b6, b7⟩ := hb
        go_upto_region 5 with (fail)
        have hb : BatO wr g (k * 8) B := ⟨b0, b1, b2, b3, b4, b5, b6, b7⟩
        clear b0 b1 b2 b3 b4 b5 b6 b7
        refine late_region (S := (fun w' => BatO w' g (k * 8) B ∧ At w' w.heap.size x y)) [18] (by kernel_rfl) ?_ (fun hH0 => ?_)
        · exact ⟨hb.grew (Grew.refl wr).drew, hg.grew (Grew.refl wr).drew⟩
        refine late_take (i := 0) (oi := { dst := some 16, op := Go.Op.move (Go.Operand.tmp 0), type := 25, pos := "world.go:111", after := #[], guard := none }) (v := ?va1) rfl (by kernel_rfl) (by kernel_rfl) (by kernel_rfl) (by kernel_rfl) (by kernel_rfl) (fun _ _ _ h => h) (Or.inl ⟨by rfl, ?hya1⟩) hH0 ?resta1
        case hya1 => (intro w hSw; obtain ⟨⟨b0, b1, b2, b3, b4, b5, b6, b7⟩, m0, m1⟩ := hSw; go_simp; try (with_reducible rfl))
        simp only [Act.put, List.setIfInBounds_toArray, List.set_cons_zero, List.set_cons_succ]
        refine late_take (i := 1) (oi := { dst := some 17, op := Go.Op.move (Go.Operand.tmp 4), type := 3, pos := "world.go:111", after := #[], guard := none }) (v := ?va2) rfl (by kernel_rfl) (by kernel_rfl) (by kernel_rfl) (by kernel_rfl) (by kernel_rfl) (fun _ _ _ h => h) (Or.inl ⟨by rfl, ?hya2⟩) hH0 ?resta2
        case hya2 => (intro w hSw; obtain ⟨⟨b0, b1, b2, b3, b4, b5, b6, b7⟩, m0, m1⟩ := hSw; go_simp; try (with_reducible rfl))
        simp only [Act.put, List.setIfInBounds_toArray, List.set_cons_zero, List.set_cons_succ]
        refine late_take (i := 2) (oi := { dst := some 18, op := Go.Op.move (Go.Operand.tmp 0), type := 25, pos := "world.go:111", after := #[], guard := none }) (v := ?va3) rfl (by kernel_rfl) (by kernel_rfl) (by kernel_rfl) (by kernel_rfl) (by kernel_rfl) (fun _ _ _ h => h) (Or.inl ⟨by rfl, ?hya3⟩) hH0 ?resta3
        case hya3 => (intro w hSw; obtain ⟨⟨b0, b1, b2, b3, b4, b5, b6, b7⟩, m0, m1⟩ := hSw; go_simp; try (with_reducible rfl))
        simp only [Act.put, List.setIfInBounds_toArray, List.set_cons_zero, List.set_cons_succ]
        refine late_take (i := 3) (oi := { dst := some 19, op := Go.Op.move (Go.Operand.tmp 4), type := 3, pos := "world.go:111", after := #[], guard := none }) (v := ?va4) rfl (by kernel_rfl) (by kernel_rfl) (by kernel_rfl) (by kernel_rfl) (by kernel_rfl) (fun _ _ _ h => h) (Or.inl ⟨by rfl, ?hya4⟩) hH0 ?resta4
        case hya4 => (intro w hSw; obtain ⟨⟨b0, b1, b2, b3, b4, b5, b6, b7⟩, m0, m1⟩ := hSw; go_simp; try (with_reducible rfl))
        simp only [Act.put, List.setIfInBounds_toArray, List.set_cons_zero, List.set_cons_succ]
        refine late_take (i := 4) (oi := { dst := some 20, op := Go.Op.indexAddr 25 (Go.Operand.tmp 18) (Go.Operand.tmp 19), type := 0, pos := "world.go:111", after := #[{ on := 2, ground := Go.Ground.data }, { on := 3, ground := Go.Ground.data }], guard := none }) (v := ?va5) rfl (by kernel_rfl) (by kernel_rfl) (by kernel_rfl) (by kernel_rfl) (by kernel_rfl) (fun _ _ _ h => h) (Or.inl ⟨by rfl, ?hya5⟩) hH0 ?resta5
        case hya5 => (intro w hSw; obtain ⟨⟨b0, b1, b2, b3, b4, b5, b6, b7⟩, m0, m1⟩ := hSw; go_simp; try (with_reducible rfl))
        simp only [Act.put, List.setIfInBounds_toArray, List.set_cons_zero, List.set_cons_succ]
        refine late_take (i := 5) (oi := { dst := some 21, op := Go.Op.fieldAddr 39 (Go.Operand.tmp 20) 4, type := 0, pos := "world.go:111", after := #[{ on := 4, ground := Go.Ground.data }], guard := none }) (v := ?va6) rfl (by kernel_rfl) (by kernel_rfl) (by kernel_rfl) (by kernel_rfl) (by kernel_rfl) (fun _ _ _ h => h) (Or.inl ⟨by rfl, ?hya6⟩) hH0 ?resta6
        case hya6 => (intro w hSw; obtain ⟨⟨b0, b1, b2, b3, b4, b5, b6, b7⟩, m0, m1⟩ := hSw; go_simp; try (with_reducible rfl))
        simp only [Act.put, List.setIfInBounds_toArray, List.set_cons_zero, List.set_cons_succ]
        refine late_take (i := 6) (oi := { dst := some 22, op := Go.Op.load 24 (Go.Operand.tmp 21), type := 24, pos := "world.go:111", after := #[{ on := 5, ground := Go.Ground.data }], guard := none }) (v := ?va7) rfl (by kernel_rfl) (by kernel_rfl) (by kernel_rfl) (by kernel_rfl) (by kernel_rfl) (fun _ _ _ h => h) (Or.inl ⟨by rfl, ?hya7⟩) hH0 ?resta7
        case hya7 => (intro w hSw; obtain ⟨⟨b0, b1, b2, b3, b4, b5, b6, b7⟩, m0, m1⟩ := hSw; go_simp; try (with_reducible rfl))
        simp only [Act.put, List.setIfInBounds_toArray, List.set_cons_zero, List.set_cons_succ]
        refine late_take (i := 7) (oi := { dst := some 23, op := Go.Op.load 24 (Go.Operand.tmp 3), type := 24, pos := "world.go:111", after := #[], guard := none }) (v := ?va8) rfl (by kernel_rfl) (by kernel_rfl) (by kernel_rfl) (by kernel_rfl) (by kernel_rfl) (fun _ _ _ h => h) (Or.inl ⟨by rfl, ?hya8⟩) hH0 ?resta8
        case hya8 => (intro w hSw; obtain ⟨⟨b0, b1, b2, b3, b4, b5, b6, b7⟩, m0, m1⟩ := hSw; go_simp; try (with_reducible rfl))
        simp only [Act.put, List.setIfInBounds_toArray, List.set_cons_zero, List.set_cons_succ]
        refine late_take (i := 8) (oi := { dst := some 24, op := Go.Op.move (Go.Operand.tmp 0), type := 25, pos := "world.go:111", after := #[], guard := none }) (v := ?va9) rfl (by kernel_rfl) (by kernel_rfl) (by kernel_rfl) (by kernel_rfl) (by kernel_rfl) (fun _ _ _ h => h) (Or.inl ⟨by rfl, ?hya9⟩) hH0 ?resta9
        case hya9 => (intro w hSw; obtain ⟨⟨b0, b1, b2, b3, b4, b5, b6, b7⟩, m0, m1⟩ := hSw; go_simp; try (with_reducible rfl))
        simp only [Act.put, List.setIfInBounds_toArray, List.set_cons_zero, List.set_cons_succ]
        refine late_take (i := 9) (oi := { dst := some 25, op := Go.Op.move (Go.Operand.tmp 4), type := 3, pos := "world.go:111", after := #[], guard := none }) (v := ?va10) rfl (by kernel_rfl) (by kernel_rfl) (by kernel_rfl) (by kernel_rfl) (by kernel_rfl) (fun _ _ _ h => h) (Or.inl ⟨by rfl, ?hya10⟩) hH0 ?resta10
        case hya10 => (intro w hSw; obtain ⟨⟨b0, b1, b2, b3, b4, b5, b6, b7⟩, m0, m1⟩ := hSw; go_simp; try (with_reducible rfl))
        simp only [Act.put, List.setIfInBounds_toArray, List.set_cons_zero, List.set_cons_succ]
        refine late_take (i := 10) (oi := { dst := some 26, op := Go.Op.indexAddr 25 (Go.Operand.tmp 24) (Go.Operand.tmp 25), type := 0, pos := "world.go:111", after := #[{ on := 8, ground := Go.Ground.data }, { on := 9, ground := Go.Ground.data }], guard := none }) (v := ?va11) rfl (by kernel_rfl) (by kernel_rfl) (by kernel_rfl) (by kernel_rfl) (by kernel_rfl) (fun _ _ _ h => h) (Or.inl ⟨by rfl, ?hya11⟩) hH0 ?resta11
        case hya11 => (intro w hSw; obtain ⟨⟨b0, b1, b2, b3, b4, b5, b6, b7⟩, m0, m1⟩ := hSw; go_simp; try (with_reducible rfl))
        simp only [Act.put, List.setIfInBounds_toArray, List.set_cons_zero, List.set_cons_succ]
        refine late_take (i := 11) (oi := { dst := some 27, op := Go.Op.fieldAddr 39 (Go.Operand.tmp 26) 2, type := 0, pos := "world.go:111", after := #[{ on := 10, ground := Go.Ground.data }], guard := none }) (v := ?va12) rfl (by kernel_rfl) (by kernel_rfl) (by kernel_rfl) (by kernel_rfl) (by kernel_rfl) (fun _ _ _ h => h) (Or.inl ⟨by rfl, ?hya12⟩) hH0 ?resta12
        case hya12 => (intro w hSw; obtain ⟨⟨b0, b1, b2, b3, b4, b5, b6, b7⟩, m0, m1⟩ := hSw; go_simp; try (with_reducible rfl))
        simp only [Act.put, List.setIfInBounds_toArray, List.set_cons_zero, List.set_cons_succ]
        refine late_take (i := 12) (oi := { dst := some 28, op := Go.Op.load 22 (Go.Operand.tmp 27), type := 22, pos := "world.go:111", after := #[{ on := 11, ground := Go.Ground.data }], guard := none }) (v := ?va13) rfl (by kernel_rfl) (by kernel_rfl) (by kernel_rfl) (by kernel_rfl) (by kernel_rfl) (fun _ _ _ h => h) (Or.inl ⟨by rfl, ?hya13⟩) hH0 ?resta13
        case hya13 => (intro w hSw; obtain ⟨⟨b0, b1, b2, b3, b4, b5, b6, b7⟩, m0, m1⟩ := hSw; go_simp; try (with_reducible rfl))
        simp only [Act.put, List.setIfInBounds_toArray, List.set_cons_zero, List.set_cons_succ]
        refine late_one (i := 13) (by kernel_rfl) ?_
        refine late_run (o := { dst := some 29, op := Go.Op.call { callee := Go.Callee.value (Go.Operand.func 70), args := #[Go.Operand.tmp 23, Go.Operand.tmp 28], argTypes := #[24, 22] }, type := 24, pos := "world.go:111", after := #[{ on := 7, ground := Go.Ground.data }, { on := 12, ground := Go.Ground.data }], guard := none }) rfl (fun K hK => ?_)
        go_simp
        go_wp2_with (first
          | (go_at_call 70; go_fit (C1.out _); rintro e V1 ⟨(⟨rfl, h1⟩ | ⟨rfl, h1⟩), U1⟩; rotate_left; (exact post_panic (P := Tryz.prog) (fn := Tryz.f53) (R := fun e w' => Done base (some ⟨g, 0, none⟩) g cap (fallsE x y L) w e w') rfl ⟨(hW.trans ((Grew.refl wr).drew.trans U1).but), .inr (HNo.out _ (HS1.out h1.out) h1.out)⟩))
          | fail)
        refine hK.out _ _ (⟨hH0.1.grew U1, hH0.2.grew U1⟩) (fun hHa14 => ?_)
        clear hK K
        refine late_one (i := 14) (by kernel_rfl) ?_
        refine late_run (o := { dst := some 30, op := Go.Op.call { callee := Go.Callee.value (Go.Operand.func 69), args := #[Go.Operand.tmp 29, Go.Operand.const (Go.Value.int Go.IntKind.i64 64)], argTypes := #[24, 3] }, type := 24, pos := "world.go:111", after := #[{ on := 13, ground := Go.Ground.data }, { on := 13, ground := Go.Ground.chain }], guard := none }) rfl (fun K hK => ?_)
        go_simp
        go_wp2_with (first
          | (go_at_call 69; go_fit (C2.out _); rintro e V2 ⟨(⟨rfl, h2⟩ | ⟨rfl, h2⟩), U2⟩; rotate_left; (exact absurd (HZ.out) h2.out))
          | fail)
        refine hK.out _ _ (⟨hHa14.1.grew U2, hHa14.2.grew U2⟩) (fun hHa15 => ?_)
        clear hK K
        refine late_one (i := 15) (by kernel_rfl) ?_
        refine late_run (o := { dst := some 31, op := Go.Op.call { callee := Go.Callee.value (Go.Operand.func 25), args := #[Go.Operand.tmp 22, Go.Operand.tmp 30], argTypes := #[24, 24] }, type := 24, pos := "world.go:111", after := #[{ on := 6, ground := Go.Ground.data }, { on := 14, ground := Go.Ground.data }, { on := 14, ground := Go.Ground.chain }], guard := none }) rfl (fun K hK => ?_)
        go_simp
        go_wp2_with (first
          | (go_at_call 25; go_fit (C3.out _); rintro e V3 ⟨(⟨rfl, h3⟩ | ⟨rfl, h3⟩), U3⟩; rotate_left; (exact post_panic (P := Tryz.prog) (fn := Tryz.f53) (R := fun e w' => Done base (some ⟨g, 0, none⟩) g cap (fallsE x y L) w e w') rfl ⟨(hW.trans ((((Grew.refl wr).drew.trans U1).trans U2).trans U3).but), .inr (HNo.out _ (HS3.out h1.out h3.out) h3.out)⟩))
          | fail)
        refine hK.out _ _ (⟨hHa15.1.grew U3, hHa15.2.grew U3⟩) (fun hHa16 => ?_)
        clear hK K
        refine late_one (i := 16) (by kernel_rfl) ?_
        refine late_run (o := { dst := some 32, op := Go.Op.indexAddr 25 (Go.Operand.tmp 16) (Go.Operand.tmp 17), type := 0, pos := "world.go:111", after := #[{ on := 0, ground := Go.Ground.data }, { on := 1, ground := Go.Ground.data }, { on := 0, ground := Go.Ground.phase }, { on := 1, ground := Go.Ground.phase }, { on := 2, ground := Go.Ground.phase }, { on := 3, ground := Go.Ground.phase }, { on := 4, ground := Go.Ground.phase }, { on := 5, ground := Go.Ground.phase }, { on := 6, ground := Go.Ground.phase }, { on := 7, ground := Go.Ground.phase }, { on := 8, ground := Go.Ground.phase }, { on := 9, ground := Go.Ground.phase }, { on := 10, ground := Go.Ground.phase }, { on := 11, ground := Go.Ground.phase }, { on := 12, ground := Go.Ground.phase }, { on := 13, ground := Go.Ground.phase }, { on := 14, ground := Go.Ground.phase }, { on := 15, ground := Go.Ground.phase }], guard := none }) rfl (fun K hK => ?_)
        go_simp
        refine hK.out _ _ hHa16 (fun hHa17 => ?_)
        clear hK K
        refine late_take (i := 17) (oi := { dst := some 33, op := Go.Op.fieldAddr 39 (Go.Operand.tmp 32) 4, type := 0, pos := "world.go:111", after := #[{ on := 16, ground := Go.Ground.data }, { on := 0, ground := Go.Ground.phase }, { on := 1, ground := Go.Ground.phase }, { on := 2, ground := Go.Ground.phase }, { on := 3, ground := Go.Ground.phase }, { on := 4, ground := Go.Ground.phase }, { on := 5, ground := Go.Ground.phase }, { on := 6, ground := Go.Ground.phase }, { on := 7, ground := Go.Ground.phase }, { on := 8, ground := Go.Ground.phase }, { on := 9, ground := Go.Ground.phase }, { on := 10, ground := Go.Ground.phase }, { on := 11, ground := Go.Ground.phase }, { on := 12, ground := Go.Ground.phase }, { on := 13, ground := Go.Ground.phase }, { on := 14, ground := Go.Ground.phase }, { on := 15, ground := Go.Ground.phase }], guard := none }) (v := ?va18) rfl (by kernel_rfl) (by kernel_rfl) (by kernel_rfl) (by kernel_rfl) (by kernel_rfl) (fun _ _ _ h => h) (Or.inl ⟨by rfl, ?hya18⟩) hHa17 ?resta18
        case hya18 => (intro w hSw; obtain ⟨⟨b0, b1, b2, b3, b4, b5, b6, b7⟩, m0, m1⟩ := hSw; go_simp; try (with_reducible rfl))
        simp only [Act.put, List.setIfInBounds_toArray, List.set_cons_zero, List.set_cons_succ]
        refine late_one (i := 18) (by kernel_rfl) ?_
        refine late_write (o := { dst := none, op := Go.Op.store 24 (Go.Operand.tmp 33) (Go.Operand.tmp 31), type := 0, pos := "world.go:111", after := #[{ on := 17, ground := Go.Ground.data }, { on := 15, ground := Go.Ground.data }, { on := 15, ground := Go.Ground.chain }, { on := 0, ground := Go.Ground.phase }, { on := 1, ground := Go.Ground.phase }, { on := 2, ground := Go.Ground.phase }, { on := 3, ground := Go.Ground.phase }, { on := 4, ground := Go.Ground.phase }, { on := 5, ground := Go.Ground.phase }, { on := 6, ground := Go.Ground.phase }, { on := 7, ground := Go.Ground.phase }, { on := 8, ground := Go.Ground.phase }, { on := 9, ground := Go.Ground.phase }, { on := 10, ground := Go.Ground.phase }, { on := 11, ground := Go.Ground.phase }, { on := 12, ground := Go.Ground.phase }, { on := 13, ground := Go.Ground.phase }, { on := 14, ground := Go.Ground.phase }, { on := 15, ground := Go.Ground.phase }], guard := none }) rfl (by kernel_rfl) (fun K hK => ?_)
        have G3 : Grew wr V3 := (((Grew.refl wr).drew.trans U1).trans U2).trans U3
        have hO3 := hO.grew G3
        have ⟨a0, a1, a2, a3, a4, a5, a6, a7⟩ := hO3.cells hlt'
        have z1 := hO3.free hlt' (k * 8 + 6)
        have z2 := hO3.free hlt' (k * 8 + 7)
        go_simp
        refine hK.out _ _ ?_
        clear hK K
        refine late_done (by kernel_rfl) ?_ _
        go_wp2_with (fail)
        have hE := HS2.out h1.out h3.out
        refine ⟨⟨k + 1, C.set k (B.mom T3.1 T3.2.1), by omega, rfl, by rw [List.length_set]; exact hl, ?_, ?_, ?_, ?_⟩, ?_⟩
        · have := hO3.mom hlt' HI.out.1 HI.out.2
          rw [HBk.out] at this
          exact this
        · have h4 : (fallE x y k C).2 = 0 := by rw [hE]
          have h5 : (fallE x y k C).1 = C.set k (B.mom T3.1 T3.2.1) := by rw [hE]
          show _ = _
          rw [HU.out, upE_ok hlt h4, h5]
        · exact (((hW.trans G3.but).set rfl _ _ _).set rfl _ _ _)
        · have := hlt0 k hlt
          have f := set_far (a := g) (c := w.heap.size) (by omega)
          have hg3 := hg.grew G3
          exact ⟨by rw [f, f]; exact hg3.1, by rw [f, f]; exact hg3.2⟩
        · simp [intOf]; omega
    · have hi : ¬ (k : Int) < (L.length : Int) := by omega
      obtain rfl : k = L.length := by omega
      have hE : Hid (fallsE x y L = (C, 0)) := by show _ = _; rw [HU.out, Nat.sub_self]; rfl
      clear HU
      go_wp2_with (fail)
      go_end0
      exact ⟨hW, .inl ⟨by rw [hE.out], rfl, by rw [hE.out]; exact hO⟩⟩
end Go.Proofs.YtnkhknmpffcfbaaGreat
