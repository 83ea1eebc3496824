/-
  The document's own word on contacts (maquetteref1's Hit).
-/
import Derived.Test.YtcoooehcgbohgaaGreatPxHRef3
namespace Go.Proofs.YtcoooehcgbohgaaGreat
open Go.RowKit

theorem unit_slim {x y : Int} (hx : inF x) (hy : inF y) : (-4294967296 ≤ (unitR x y).1.1 ∧ (unitR x y).1.1 ≤ 4294967296) ∧ -4294967296 ≤ (unitR x y).1.2 ∧ (unitR x y).1.2 ≤ 4294967296 := by
  have k0 := rt2_nonneg hx hy
  have k1 := rt2_gex hx hy
  have k2 := rt2_gey hx hy
  have z : ((-4294967296 : Int) ≤ 0 ∧ (0 : Int) ≤ 4294967296) ∧ (-4294967296 : Int) ≤ 0 ∧ (0 : Int) ≤ 4294967296 := by omega
  by_cases g : rt2 x y < 9223372036854775808
  · have e : lenR x y = (rt2 x y, 0) := if_pos g
    unfold unitR
    rw [e]
    simp only
    rw [if_pos trivial]
    by_cases hz : rt2 x y = 0
    · rw [if_pos hz]; exact z
    · rw [if_neg hz, div_qd (by omega) k1, div_qd (by omega) k2]
      split
      · exact ⟨qd_in (by omega) k1, qd_in (by omega) k2⟩
      · exact z
  · have e : lenR x y = (0, 3) := if_neg g
    unfold unitR
    rw [e]
    simp only
    rw [if_neg (by decide)]
    exact z
def Tidy (r : (Ht × Bool) × Int) : Prop := (¬ r.2 = 0 → r.1.2 = false) ∧ (r.1.2 = false → r.1.1 = ⟨0, 0, 0⟩) ∧ Slim r.1
theorem tidy_none (k : Int) : Tidy ((⟨0, 0, 0⟩, false), k) := ⟨fun _ => rfl, fun _ => rfl, by simp [Slim]⟩
theorem tidy_ifH {k : Int} {r : (Ht × Bool) × Int} (h : Tidy r) : Tidy (ifH k r) := by
  by_cases g : k = 0
  · rw [ifH_ok g]; exact h
  · rw [ifH_no g]; exact tidy_none k
theorem tidy_contact {x y d : Int} (hx : -4294967296 ≤ x ∧ x ≤ 4294967296) (hy : -4294967296 ≤ y ∧ y ≤ 4294967296) : Tidy (contactH x y d, 0) := by
  refine ⟨fun h => absurd rfl h, fun h => ?_, contact_slim hx hy⟩
  by_cases g : d ≤ 0
  · show (contactH x y d).1 = _; rw [contact_no g]
  · rw [contact_yes (by omega)] at h; cases h
theorem crateR_tidy (A B : Bd) : Tidy (crateR A B) := by
  refine tidy_ifH (tidy_ifH ?_)
  split
  · exact tidy_none 0
  · refine tidy_ifH ?_
    unfold lessH
    split
    · exact tidy_contact (by omega) (tow_in _)
    · exact tidy_contact (tow_in _) (by omega)
theorem ballR_tidy (A B : Bd) : Tidy (ballR A B) := by
  have iD := two_in (subR_in (nearI A.p (boxR B).1.l (boxR B).1.h) A.p) (subR_in (nearI A.q (boxR B).1.m (boxR B).1.k) A.q)
  have iU := unit_slim iD.1 iD.2
  refine tidy_ifH (tidy_ifH (tidy_ifH ?_))
  split
  · exact crateR_tidy _ _
  · exact tidy_ifH (tidy_contact iU.1 iU.2)

set_option maxRecDepth 10000 in
set_option maxHeartbeats 4000000 in
theorem rhit12_any (c : Nat) (A B : Bd) (hA : A.ok) (hB : B.ok) (sA : A.s = 1) (sB : B.s = 2) (w : World) (h : Err w c 0 0) :
    Calls Tryz.prog 6 #[.pointer (some ⟨c, 0, none⟩), A.val, B.val] w fun e w' => okH (hitR A B) e ∧ Err w' c 0 (hitR A B).2 ∧ Past c w w' := by
  have hc : c < w.heap.size := cell_block h.1
  have x1 : (A.s == 1) = true := by simp [sA]
  have x2 : (A.s == 2) = false := by simp [sA]
  have y1 : (B.s == 1) = false := by simp [sB]
  have y2 : (B.s == 2) = true := by simp [sB]
  rw [hitR_12 sA sB]
  have iB := @boxR_in B
  have CB : Hid (∀ W, Err W c 0 0 → Calls Tryz.prog 19 #[.pointer (some ⟨c, 0, none⟩), .agg #[.int .i64 B.s, .int .i64 B.a, .int .i64 B.b, .int .i64 B.m, .int .i64 B.p, .int .i64 B.q, .int .i64 B.u, .int .i64 B.v]] W fun e w' => (∃ x : Bx, e = .returned (.agg #[.int .i64 x.l, .int .i64 x.m, .int .i64 x.h, .int .i64 x.k]) ∧ Hid ((boxR B).2 = 0 → x = (boxR B).1)) ∧ Err w' c 0 (boxR B).2 ∧ Past c W w') := fun W hE => rbox_any c B hB W hE
  have CC : Hid (∀ W (x : Bx), Calls Tryz.prog 18 #[.agg #[.int .i64 A.p, .int .i64 A.q], .agg #[.int .i64 x.l, .int .i64 x.m, .int .i64 x.h, .int .i64 x.k]] W fun e w' => e = .returned (.agg #[.int .i64 (nearI A.p x.l x.h), .int .i64 (nearI A.q x.m x.k)]) ∧ Grew W w') := fun W x => rclamp_any A.p A.q x W
  have n0 : ¬ (boxR B).2 = 0 → ballR A B = ((⟨0, 0, 0⟩, false), (boxR B).2) := fun g => ifH_no g _
  have n1 := @ball_ok1 A B
  generalize ballR A B = T at *
  generalize boxR B = b at *
  obtain ⟨b, k⟩ := b
  simp only at iB n0 n1 CB
  clear sA sB
  obtain ⟨W, hW⟩ : ∃ W, W = ((w.alloc (.cells #[.int .i64 A.s, .int .i64 A.a, .int .i64 A.b, .int .i64 A.m, .int .i64 A.p, .int .i64 A.q, .int .i64 A.u, .int .i64 A.v] 28)).alloc (.cells #[.int .i64 B.s, .int .i64 B.a, .int .i64 B.b, .int .i64 B.m, .int .i64 B.p, .int .i64 B.q, .int .i64 B.u, .int .i64 B.v] 28)).alloc (.cells #[.int .i64 0, .int .i64 0, .int .i64 0] 34) := ⟨_, rfl⟩
  have GW : Grew w W := by rw [hW]; exact (((Grew.refl w).alloc _ _).alloc _ _).alloc _ _
  have sz : W.heap.size = w.heap.size + 1 + 1 + 1 := by rw [hW]; simp [go_sem]
  have F0 : Hid (Fm W w.heap.size A B) := by rw [hW]; exact fm_start w A B
  have E0 := h.grew GW
  have PW : Hid (Past c w W) := GW.past
  have HW : Hid (_ = _) := hW
  have zA : Hid (Free W w.heap.size) := GW.freeB (Nat.le_refl _)
  clear hW h GW
  unfold Bd.val
  have F0' := F0.out
  obtain ⟨⟨a0, a1, a2, a3, a4, a5, a6, a7⟩, ⟨b0, b1, b2, b3, b4, b5, b6, b7⟩, ⟨r0, r1, r2⟩, zz⟩ := F0'; have z0 := zz 0 none; have z1 := zz 1 none; have z2 := zz 2 none; clear zz
  go_enter Tryz.func6, Tryz.ntmps6
  go_wp2_with (fail)
  rw [← HW.out]
  clear HW
  obtain ⟨W0, hW0⟩ : ∃ W0, W0 = W := ⟨_, rfl⟩
  rw [← hW0] at sz F0 E0 PW zA a0 a1 a2 a3 a4 a5 a6 a7 b0 b1 b2 b3 b4 b5 b6 b7 r0 r1 r2 z0 z1 z2 ⊢
  have EW := E0
  clear hW0 E0
  go_cut [13] from 85 to 90 (fun cc wx => ∃ (P : Nat) (x : Bx), cc = .pointer (some ⟨P, 0, none⟩) ∧ At wx P (nearI A.p x.l x.h) (nearI A.q x.m x.k) ∧ W0.heap.size ≤ P ∧ Hid (k = 0 → x = b) ∧ Err wx c 0 k ∧ Past c W0 wx)
  case first =>
    clear n0 n1 iB hA F0 PW zA
    have SP : Hid (∀ W W', Past c W W' → (fun w' => w'.cell? ⟨w.heap.size, 4, none⟩ = some (.int .i64 A.p) ∧ w'.cell? ⟨w.heap.size, 5, none⟩ = some (.int .i64 A.q) ∧ w'.cell? ⟨w.heap.size + 1, 0, none⟩ = some (.int .i64 B.s) ∧ w'.cell? ⟨w.heap.size + 1, 1, none⟩ = some (.int .i64 B.a) ∧ w'.cell? ⟨w.heap.size + 1, 2, none⟩ = some (.int .i64 B.b) ∧ w'.cell? ⟨w.heap.size + 1, 3, none⟩ = some (.int .i64 B.m) ∧ w'.cell? ⟨w.heap.size + 1, 4, none⟩ = some (.int .i64 B.p) ∧ w'.cell? ⟨w.heap.size + 1, 5, none⟩ = some (.int .i64 B.q) ∧ w'.cell? ⟨w.heap.size + 1, 6, none⟩ = some (.int .i64 B.u) ∧ w'.cell? ⟨w.heap.size + 1, 7, none⟩ = some (.int .i64 B.v)) W → (fun w' => w'.cell? ⟨w.heap.size, 4, none⟩ = some (.int .i64 A.p) ∧ w'.cell? ⟨w.heap.size, 5, none⟩ = some (.int .i64 A.q) ∧ w'.cell? ⟨w.heap.size + 1, 0, none⟩ = some (.int .i64 B.s) ∧ w'.cell? ⟨w.heap.size + 1, 1, none⟩ = some (.int .i64 B.a) ∧ w'.cell? ⟨w.heap.size + 1, 2, none⟩ = some (.int .i64 B.b) ∧ w'.cell? ⟨w.heap.size + 1, 3, none⟩ = some (.int .i64 B.m) ∧ w'.cell? ⟨w.heap.size + 1, 4, none⟩ = some (.int .i64 B.p) ∧ w'.cell? ⟨w.heap.size + 1, 5, none⟩ = some (.int .i64 B.q) ∧ w'.cell? ⟨w.heap.size + 1, 6, none⟩ = some (.int .i64 B.u) ∧ w'.cell? ⟨w.heap.size + 1, 7, none⟩ = some (.int .i64 B.v)) W') := fun W W' g h => ⟨g.cell (by simp only; omega) h.1, g.cell (by simp only; omega) h.2.1, g.cell (by simp only; omega) h.2.2.1, g.cell (by simp only; omega) h.2.2.2.1, g.cell (by simp only; omega) h.2.2.2.2.1, g.cell (by simp only; omega) h.2.2.2.2.2.1, g.cell (by simp only; omega) h.2.2.2.2.2.2.1, g.cell (by simp only; omega) h.2.2.2.2.2.2.2.1, g.cell (by simp only; omega) h.2.2.2.2.2.2.2.2.1, g.cell (by simp only; omega) h.2.2.2.2.2.2.2.2.2⟩
    have SW : Hid (∀ W W' i, Wrote (fun n => n = i) W W' → W0.heap.size ≤ i → (fun w' => w'.cell? ⟨w.heap.size, 4, none⟩ = some (.int .i64 A.p) ∧ w'.cell? ⟨w.heap.size, 5, none⟩ = some (.int .i64 A.q) ∧ w'.cell? ⟨w.heap.size + 1, 0, none⟩ = some (.int .i64 B.s) ∧ w'.cell? ⟨w.heap.size + 1, 1, none⟩ = some (.int .i64 B.a) ∧ w'.cell? ⟨w.heap.size + 1, 2, none⟩ = some (.int .i64 B.b) ∧ w'.cell? ⟨w.heap.size + 1, 3, none⟩ = some (.int .i64 B.m) ∧ w'.cell? ⟨w.heap.size + 1, 4, none⟩ = some (.int .i64 B.p) ∧ w'.cell? ⟨w.heap.size + 1, 5, none⟩ = some (.int .i64 B.q) ∧ w'.cell? ⟨w.heap.size + 1, 6, none⟩ = some (.int .i64 B.u) ∧ w'.cell? ⟨w.heap.size + 1, 7, none⟩ = some (.int .i64 B.v)) W → (fun w' => w'.cell? ⟨w.heap.size, 4, none⟩ = some (.int .i64 A.p) ∧ w'.cell? ⟨w.heap.size, 5, none⟩ = some (.int .i64 A.q) ∧ w'.cell? ⟨w.heap.size + 1, 0, none⟩ = some (.int .i64 B.s) ∧ w'.cell? ⟨w.heap.size + 1, 1, none⟩ = some (.int .i64 B.a) ∧ w'.cell? ⟨w.heap.size + 1, 2, none⟩ = some (.int .i64 B.b) ∧ w'.cell? ⟨w.heap.size + 1, 3, none⟩ = some (.int .i64 B.m) ∧ w'.cell? ⟨w.heap.size + 1, 4, none⟩ = some (.int .i64 B.p) ∧ w'.cell? ⟨w.heap.size + 1, 5, none⟩ = some (.int .i64 B.q) ∧ w'.cell? ⟨w.heap.size + 1, 6, none⟩ = some (.int .i64 B.u) ∧ w'.cell? ⟨w.heap.size + 1, 7, none⟩ = some (.int .i64 B.v)) W') := fun W W' i g hi h => ⟨g.cell h.1 (by simp only; omega), g.cell h.2.1 (by simp only; omega), g.cell h.2.2.1 (by simp only; omega), g.cell h.2.2.2.1 (by simp only; omega), g.cell h.2.2.2.2.1 (by simp only; omega), g.cell h.2.2.2.2.2.1 (by simp only; omega), g.cell h.2.2.2.2.2.2.1 (by simp only; omega), g.cell h.2.2.2.2.2.2.2.1 (by simp only; omega), g.cell h.2.2.2.2.2.2.2.2.1 (by simp only; omega), g.cell h.2.2.2.2.2.2.2.2.2 (by simp only; omega)⟩
    refine wp_region_held_drew (S := (fun w' => w'.cell? ⟨w.heap.size, 4, none⟩ = some (.int .i64 A.p) ∧ w'.cell? ⟨w.heap.size, 5, none⟩ = some (.int .i64 A.q) ∧ w'.cell? ⟨w.heap.size + 1, 0, none⟩ = some (.int .i64 B.s) ∧ w'.cell? ⟨w.heap.size + 1, 1, none⟩ = some (.int .i64 B.a) ∧ w'.cell? ⟨w.heap.size + 1, 2, none⟩ = some (.int .i64 B.b) ∧ w'.cell? ⟨w.heap.size + 1, 3, none⟩ = some (.int .i64 B.m) ∧ w'.cell? ⟨w.heap.size + 1, 4, none⟩ = some (.int .i64 B.p) ∧ w'.cell? ⟨w.heap.size + 1, 5, none⟩ = some (.int .i64 B.q) ∧ w'.cell? ⟨w.heap.size + 1, 6, none⟩ = some (.int .i64 B.u) ∧ w'.cell? ⟨w.heap.size + 1, 7, none⟩ = some (.int .i64 B.v))) (by kernel_rfl) ?_ (fun hH0 => ?_)
    · exact SP.out W0 _ (Grew.refl W0).drew.past ⟨a4, a5, b0, b1, b2, b3, b4, b5, b6, b7⟩
    clear a0 a1 a2 a3 a4 a5 a6 a7 b0 b1 b2 b3 b4 b5 b6 b7 r0 r1 r2 z0 z1 z2
    obtain ⟨X0, hX0⟩ : ∃ X, X = W0.drew := ⟨_, rfl⟩
    rw [← hX0] at hH0 ⊢
    have G0 : Hid (Past c W0 X0) := by rw [hX0]; exact (Grew.refl W0).drew.past
    have E0 : Err X0 c 0 0 := by rw [hX0]; exact EW.grew (Grew.refl W0).drew
    clear hX0
    refine wpAnyH_take (i := 0) (oi := { dst := some 85, op := Go.Op.fieldAddr 28 (Go.Operand.tmp 4) 3, type := 0, pos := "world.go:433", after := #[], guard := none }) (v := ?v0) rfl (by kernel_rfl) (by kernel_rfl) (by kernel_rfl) (fun _ _ _ h => h) (Or.inl ⟨by rfl, ?hy0⟩) (by assumption) ?rest0
    case hy0 => (intro w hSw; (try dsimp only at hSw); go_simp; try (with_reducible rfl))
    simp only [Act.put, List.setIfInBounds_toArray, List.set_cons_zero, List.set_cons_succ]
    refine wpAnyH_take (i := 1) (oi := { dst := some 86, op := Go.Op.load 26 (Go.Operand.tmp 85), type := 26, pos := "world.go:433", after := #[{ on := 0, ground := Go.Ground.data }], guard := none }) (v := ?v1) rfl (by kernel_rfl) (by kernel_rfl) (by kernel_rfl) (fun _ _ _ h => h) (Or.inl ⟨by rfl, ?hy1⟩) (by assumption) ?rest1
    case hy1 => (intro w hSw; (try dsimp only at hSw); go_simp; try (with_reducible rfl))
    simp only [Act.put, List.setIfInBounds_toArray, List.set_cons_zero, List.set_cons_succ]
    refine wpAnyH_take (i := 2) (oi := { dst := some 87, op := Go.Op.move (Go.Operand.tmp 0), type := 50, pos := "world.go:433", after := #[], guard := none }) (v := ?v2) rfl (by kernel_rfl) (by kernel_rfl) (by kernel_rfl) (fun _ _ _ h => h) (Or.inl ⟨by rfl, ?hy2⟩) (by assumption) ?rest2
    case hy2 => (intro w hSw; (try dsimp only at hSw); go_simp; try (with_reducible rfl))
    simp only [Act.put, List.setIfInBounds_toArray, List.set_cons_zero, List.set_cons_succ]
    refine wpAnyH_take (i := 3) (oi := { dst := some 88, op := Go.Op.load 28 (Go.Operand.tmp 5), type := 28, pos := "world.go:433", after := #[], guard := none }) (v := ?v3) rfl (by kernel_rfl) (by kernel_rfl) (by kernel_rfl) (fun _ _ _ h => h) (Or.inl ⟨by rfl, ?hy3⟩) (by assumption) ?rest3
    case hy3 => (intro w hSw; (try dsimp only at hSw); go_simp; try (with_reducible rfl))
    simp only [Act.put, List.setIfInBounds_toArray, List.set_cons_zero, List.set_cons_succ]
    refine wpAnyH_ready (rs := [4, 6]) (by kernel_rfl) (by simp) ?_
    refine AllReadyH.cons (o := { dst := some 89, op := Go.Op.call { callee := Go.Callee.value (Go.Operand.func 19), args := #[Go.Operand.tmp 87, Go.Operand.tmp 88], argTypes := #[50, 28] }, type := 57, pos := "world.go:433", after := #[{ on := 2, ground := Go.Ground.data }, { on := 3, ground := Go.Ground.data }], guard := none }) rfl (fun K hK => ?_) (AllReadyH.cons (o := { dst := some 13, op := Go.Op.alloc 26, type := 0, pos := "world.go:433", after := #[], guard := none }) rfl (fun K hK => ?_) AllReadyH.nil)
    · go_simp
      go_wp2_with (first
        | (go_at_call 19; go_fit (CB.out _ E0); rintro e X1 ⟨⟨x, rfl, hx⟩, E1, g1⟩))
      refine hK.out _ _ (SP.out _ _ g1 hH0) (fun hH1 => ?_)
      clear hK K
      have G1 : Hid (Past c W0 X1) := G0.out.trans g1
      refine wpAnyH_ready (rs := [5, 6]) (by kernel_rfl) (by simp) ?_
      refine AllReadyH.cons (o := { dst := some 90, op := Go.Op.call { callee := Go.Callee.value (Go.Operand.func 18), args := #[Go.Operand.tmp 86, Go.Operand.tmp 89], argTypes := #[26, 57] }, type := 26, pos := "world.go:433", after := #[{ on := 1, ground := Go.Ground.data }, { on := 4, ground := Go.Ground.data }, { on := 4, ground := Go.Ground.chain }], guard := none }) rfl (fun K hK => ?_) (AllReadyH.cons (o := { dst := some 13, op := Go.Op.alloc 26, type := 0, pos := "world.go:433", after := #[], guard := none }) rfl (fun K hK => ?_) AllReadyH.nil)
      · go_simp
        go_wp2_with (first
          | (go_at_call 18; go_fit (CC.out _ x); rintro e X2 ⟨rfl, gg2⟩))
        have E2 := E1.grew gg2
        have g2 : Past c X1 X2 := gg2.past
        refine hK.out _ _ (SP.out _ _ g2 hH1) (fun hH2 => ?_)
        clear hK K
        have G2 : Hid (Past c W0 X2) := G1.out.trans g2
        refine wpAnyH_ready (rs := [6]) (by kernel_rfl) (by simp) ?_
        refine AllReadyH.cons (o := { dst := some 13, op := Go.Op.alloc 26, type := 0, pos := "world.go:433", after := #[], guard := none }) rfl (fun K hK => ?_) AllReadyH.nil
        · go_simp
          obtain ⟨X3, hW3⟩ : ∃ X, X = X2.alloc (.cells #[.int .i64 0, .int .i64 0] 26) := ⟨_, rfl⟩
          have g3 : Grew X2 X3 := by rw [hW3]; exact (Grew.refl _).alloc _ _
          refine hK.out _ _ (SP.out _ _ ((Grew.refl X2).alloc _ _).past hH2) (fun hH3 => ?_)
          clear hK K
          rw [← hW3] at hH3 ⊢
          have G3 : Hid (Past c W0 X3) := G2.out.trans g3.past
          have E3 := E2.grew g3
          have A3 : At X3 X2.heap.size 0 0 := by rw [hW3]; constructor <;> simp [go_sem]
          have Z3 : Free X3 X2.heap.size := g3.freeB (Nat.le_refl _)
          have M : W0.heap.size ≤ X2.heap.size := G2.out.size
          obtain ⟨P, hP⟩ : ∃ P, X2.heap.size = P := ⟨_, rfl⟩
          rw [hP] at A3 Z3 M ⊢
          clear hW3 hP
          refine wpAnyH_ready (rs := [7]) (by kernel_rfl) (by simp) ?_
          refine AllReadyH.cons (o := { dst := none, op := Go.Op.store 26 (Go.Operand.tmp 13) (Go.Operand.tmp 90), type := 0, pos := "world.go:433", after := #[{ on := 6, ground := Go.Ground.data }, { on := 5, ground := Go.Ground.data }, { on := 5, ground := Go.Ground.chain }, { on := 0, ground := Go.Ground.phase }, { on := 1, ground := Go.Ground.phase }, { on := 2, ground := Go.Ground.phase }, { on := 3, ground := Go.Ground.phase }, { on := 4, ground := Go.Ground.phase }, { on := 5, ground := Go.Ground.phase }, { on := 6, ground := Go.Ground.phase }], guard := none }) rfl (fun K hK => ?_) AllReadyH.nil
          · obtain ⟨e0, e1⟩ := A3
            have z0 := Z3 0 none
            have z1 := Z3 1 none
            go_simp
            refine hK.out _ _ (SW.out _ _ P ((Grew.refl X3).set1 P _ _) M hH3) (fun hH4 => ?_)
            clear hK K
            have R4 := And.intro (at_set X3 P 0 0 (nearI A.p x.l x.h) (nearI A.q x.m x.k) ⟨e0, e1⟩) (And.intro M (And.intro hx (And.intro (Err.past (N := P) (o := 1) (Err.past (N := P) (o := 0) E3 (by omega) (.int .i64 (nearI A.p x.l x.h)) rfl) (by omega) (.int .i64 (nearI A.q x.m x.k)) rfl) ((G3.out.setNew M 0 none (.int .i64 (nearI A.p x.l x.h))).setNew M 1 none (.int .i64 (nearI A.q x.m x.k))))))
            refine wpAnyH_done (by kernel_rfl) ?_ _
            go_wp2
            go_meet
            case rel => exact ⟨P, x, rfl, R4⟩
      · go_simp
        obtain ⟨X5, hW5⟩ : ∃ X, X = X1.alloc (.cells #[.int .i64 0, .int .i64 0] 26) := ⟨_, rfl⟩
        have g5 : Grew X1 X5 := by rw [hW5]; exact (Grew.refl _).alloc _ _
        refine hK.out _ _ (SP.out _ _ ((Grew.refl X1).alloc _ _).past hH1) (fun hH5 => ?_)
        clear hK K
        rw [← hW5] at hH5 ⊢
        have G5 : Hid (Past c W0 X5) := G1.out.trans g5.past
        have E5 := E1.grew g5
        have A5 : At X5 X1.heap.size 0 0 := by rw [hW5]; constructor <;> simp [go_sem]
        have Z5 : Free X5 X1.heap.size := g5.freeB (Nat.le_refl _)
        have M : W0.heap.size ≤ X1.heap.size := G1.out.size
        obtain ⟨P, hP⟩ : ∃ P, X1.heap.size = P := ⟨_, rfl⟩
        rw [hP] at A5 Z5 M ⊢
        clear hW5 hP
        refine wpAnyH_ready (rs := [5]) (by kernel_rfl) (by simp) ?_
        refine AllReadyH.cons (o := { dst := some 90, op := Go.Op.call { callee := Go.Callee.value (Go.Operand.func 18), args := #[Go.Operand.tmp 86, Go.Operand.tmp 89], argTypes := #[26, 57] }, type := 26, pos := "world.go:433", after := #[{ on := 1, ground := Go.Ground.data }, { on := 4, ground := Go.Ground.data }, { on := 4, ground := Go.Ground.chain }], guard := none }) rfl (fun K hK => ?_) AllReadyH.nil
        · go_simp
          go_wp2_with (first
            | (go_at_call 18; go_fit (CC.out _ x); rintro e X6 ⟨rfl, gg6⟩))
          have E6 := E5.grew gg6
          have g6 : Past c X5 X6 := gg6.past
          refine hK.out _ _ (SP.out _ _ g6 hH5) (fun hH6 => ?_)
          clear hK K
          have G6 : Hid (Past c W0 X6) := G5.out.trans g6
          have A6 := A5.past g6 (by omega)
          have Z6 : Free X6 P := fun o s => g6.frozen (p := ⟨P, o, s⟩) A5.size (by simp only; omega) (Z5 o s)
          refine wpAnyH_ready (rs := [7]) (by kernel_rfl) (by simp) ?_
          refine AllReadyH.cons (o := { dst := none, op := Go.Op.store 26 (Go.Operand.tmp 13) (Go.Operand.tmp 90), type := 0, pos := "world.go:433", after := #[{ on := 6, ground := Go.Ground.data }, { on := 5, ground := Go.Ground.data }, { on := 5, ground := Go.Ground.chain }, { on := 0, ground := Go.Ground.phase }, { on := 1, ground := Go.Ground.phase }, { on := 2, ground := Go.Ground.phase }, { on := 3, ground := Go.Ground.phase }, { on := 4, ground := Go.Ground.phase }, { on := 5, ground := Go.Ground.phase }, { on := 6, ground := Go.Ground.phase }], guard := none }) rfl (fun K hK => ?_) AllReadyH.nil
          · obtain ⟨e0, e1⟩ := A6
            have z0 := Z6 0 none
            have z1 := Z6 1 none
            go_simp
            refine hK.out _ _ (SW.out _ _ P ((Grew.refl X6).set1 P _ _) M hH6) (fun hH7 => ?_)
            clear hK K
            have R7 := And.intro (at_set X6 P 0 0 (nearI A.p x.l x.h) (nearI A.q x.m x.k) ⟨e0, e1⟩) (And.intro M (And.intro hx (And.intro (Err.past (N := P) (o := 1) (Err.past (N := P) (o := 0) E6 (by omega) (.int .i64 (nearI A.p x.l x.h)) rfl) (by omega) (.int .i64 (nearI A.q x.m x.k)) rfl) ((G6.out.setNew M 0 none (.int .i64 (nearI A.p x.l x.h))).setNew M 1 none (.int .i64 (nearI A.q x.m x.k))))))
            refine wpAnyH_done (by kernel_rfl) ?_ _
            go_wp2
            go_meet
            case rel => exact ⟨P, x, rfl, R7⟩
    · go_simp
      obtain ⟨X8, hW8⟩ : ∃ X, X = X0.alloc (.cells #[.int .i64 0, .int .i64 0] 26) := ⟨_, rfl⟩
      have g8 : Grew X0 X8 := by rw [hW8]; exact (Grew.refl _).alloc _ _
      refine hK.out _ _ (SP.out _ _ ((Grew.refl X0).alloc _ _).past hH0) (fun hH8 => ?_)
      clear hK K
      rw [← hW8] at hH8 ⊢
      have G8 : Hid (Past c W0 X8) := G0.out.trans g8.past
      have E8 := E0.grew g8
      have A8 : At X8 X0.heap.size 0 0 := by rw [hW8]; constructor <;> simp [go_sem]
      have Z8 : Free X8 X0.heap.size := g8.freeB (Nat.le_refl _)
      have M : W0.heap.size ≤ X0.heap.size := G0.out.size
      obtain ⟨P, hP⟩ : ∃ P, X0.heap.size = P := ⟨_, rfl⟩
      rw [hP] at A8 Z8 M ⊢
      clear hW8 hP
      refine wpAnyH_ready (rs := [4]) (by kernel_rfl) (by simp) ?_
      refine AllReadyH.cons (o := { dst := some 89, op := Go.Op.call { callee := Go.Callee.value (Go.Operand.func 19), args := #[Go.Operand.tmp 87, Go.Operand.tmp 88], argTypes := #[50, 28] }, type := 57, pos := "world.go:433", after := #[{ on := 2, ground := Go.Ground.data }, { on := 3, ground := Go.Ground.data }], guard := none }) rfl (fun K hK => ?_) AllReadyH.nil
      · go_simp
        go_wp2_with (first
          | (go_at_call 19; go_fit (CB.out _ E8); rintro e X9 ⟨⟨x, rfl, hx⟩, E9, g9⟩))
        refine hK.out _ _ (SP.out _ _ g9 hH8) (fun hH9 => ?_)
        clear hK K
        have G9 : Hid (Past c W0 X9) := G8.out.trans g9
        have A9 := A8.past g9 (by omega)
        have Z9 : Free X9 P := fun o s => g9.frozen (p := ⟨P, o, s⟩) A8.size (by simp only; omega) (Z8 o s)
        refine wpAnyH_ready (rs := [5]) (by kernel_rfl) (by simp) ?_
        refine AllReadyH.cons (o := { dst := some 90, op := Go.Op.call { callee := Go.Callee.value (Go.Operand.func 18), args := #[Go.Operand.tmp 86, Go.Operand.tmp 89], argTypes := #[26, 57] }, type := 26, pos := "world.go:433", after := #[{ on := 1, ground := Go.Ground.data }, { on := 4, ground := Go.Ground.data }, { on := 4, ground := Go.Ground.chain }], guard := none }) rfl (fun K hK => ?_) AllReadyH.nil
        · go_simp
          go_wp2_with (first
            | (go_at_call 18; go_fit (CC.out _ x); rintro e X10 ⟨rfl, gg10⟩))
          have E10 := E9.grew gg10
          have g10 : Past c X9 X10 := gg10.past
          refine hK.out _ _ (SP.out _ _ g10 hH9) (fun hH10 => ?_)
          clear hK K
          have G10 : Hid (Past c W0 X10) := G9.out.trans g10
          have A10 := A9.past g10 (by omega)
          have Z10 : Free X10 P := fun o s => g10.frozen (p := ⟨P, o, s⟩) A9.size (by simp only; omega) (Z9 o s)
          refine wpAnyH_ready (rs := [7]) (by kernel_rfl) (by simp) ?_
          refine AllReadyH.cons (o := { dst := none, op := Go.Op.store 26 (Go.Operand.tmp 13) (Go.Operand.tmp 90), type := 0, pos := "world.go:433", after := #[{ on := 6, ground := Go.Ground.data }, { on := 5, ground := Go.Ground.data }, { on := 5, ground := Go.Ground.chain }, { on := 0, ground := Go.Ground.phase }, { on := 1, ground := Go.Ground.phase }, { on := 2, ground := Go.Ground.phase }, { on := 3, ground := Go.Ground.phase }, { on := 4, ground := Go.Ground.phase }, { on := 5, ground := Go.Ground.phase }, { on := 6, ground := Go.Ground.phase }], guard := none }) rfl (fun K hK => ?_) AllReadyH.nil
          · obtain ⟨e0, e1⟩ := A10
            have z0 := Z10 0 none
            have z1 := Z10 1 none
            go_simp
            refine hK.out _ _ (SW.out _ _ P ((Grew.refl X10).set1 P _ _) M hH10) (fun hH11 => ?_)
            clear hK K
            have R11 := And.intro (at_set X10 P 0 0 (nearI A.p x.l x.h) (nearI A.q x.m x.k) ⟨e0, e1⟩) (And.intro M (And.intro hx (And.intro (Err.past (N := P) (o := 1) (Err.past (N := P) (o := 0) E10 (by omega) (.int .i64 (nearI A.p x.l x.h)) rfl) (by omega) (.int .i64 (nearI A.q x.m x.k)) rfl) ((G10.out.setNew M 0 none (.int .i64 (nearI A.p x.l x.h))).setNew M 1 none (.int .i64 (nearI A.q x.m x.k))))))
            refine wpAnyH_done (by kernel_rfl) ?_ _
            go_wp2
            go_meet
            case rel => exact ⟨P, x, rfl, R11⟩
  obtain ⟨P, x, rfl, ⟨e0, e1⟩, hP, hx, Ec, hcP⟩ := hcut
  have Fc : Hid (Fm wc w.heap.size A B) := F0.out.past hcP hc
  have Pc : Hid (Past c w wc) := PW.out.trans hcP
  have zc : Hid (Free wc w.heap.size) := fun o s => hcP.frozen (p := ⟨w.heap.size, o, s⟩) F0.out.a.size (by simp only; omega) (zA.out o s)
  clear a0 a1 a2 a3 a4 a5 a6 a7 b0 b1 b2 b3 b4 b5 b6 b7 r0 r1 r2 z0 z1 z2
  have Fc' := Fc.out
  obtain ⟨⟨a0, a1, a2, a3, a4, a5, a6, a7⟩, ⟨b0, b1, b2, b3, b4, b5, b6, b7⟩, ⟨r0, r1, r2⟩, zz⟩ := Fc'
  have z0 := zz 0 none
  have z1 := zz 1 none
  have z2 := zz 2 none
  clear zz
  clear F0 PW hcP CB CC EW zA
  by_cases hk : k = 0
  case neg =>
    have ET : Hid (_ = _) := n0 hk
    have CL : Hid (∀ W x y u v, Err W c 0 k → Calls Tryz.prog 13 #[.pointer (some ⟨c, 0, none⟩), .agg #[.int .i64 x, .int .i64 y], .agg #[.int .i64 u, .int .i64 v]] W fun e w' => e = .returned (.agg #[.int .i64 0, .int .i64 0]) ∧ Err w' c 0 k ∧ Past c W w') := fun W x y u v hE => rless_no c x y u v k W hk hE
    have CU : Hid (∀ W x y, Err W c 0 k → Calls Tryz.prog 14 #[.pointer (some ⟨c, 0, none⟩), .agg #[.int .i64 x, .int .i64 y]] W fun e w' => e = .returned (.tuple #[.agg #[.int .i64 0, .int .i64 0], .int .i64 0]) ∧ Err w' c 0 k ∧ Past c W w') := fun W x y hE => runit_no c x y k W hk hE
    have hk' : (k == 0) = false := by simpa using hk
    clear n0 n1 hx hA hB iB hk
    go_wp2_with (first
      | (go_at_call 13; go_fit (CL.out _ _ _ _ _ Ec); rintro e V ⟨rfl, E1, U1⟩)
      | (go_at_call 14; go_fit (CU.out _ _ _ E1); rintro e V2 ⟨rfl, E2, U2⟩; have P2 := (Pc.out.trans U1).trans U2; have F2 := (Fc.out.past U1 hc).past U2 hc; clear a0 a1 a2 a3 a4 a5 a6 a7 b0 b1 b2 b3 b4 b5 b6 b7 r0 r1 r2 z0 z1 z2; obtain ⟨⟨a0, a1, a2, a3, a4, a5, a6, a7⟩, ⟨b0, b1, b2, b3, b4, b5, b6, b7⟩, ⟨r0, r1, r2⟩, zz⟩ := id F2; have z0 := zz 0 none; have z1 := zz 1 none; have z2 := zz 2 none; clear zz; have d0 : w.heap.size < V2.heap.size := (cell_block a0); have d1 : w.heap.size + 1 < V2.heap.size := (cell_block b0); have d2 : w.heap.size + 1 + 1 < V2.heap.size := (cell_block r0); have ec := E2.1; have dc : c < V2.heap.size := (cell_block ec)))
    simp [bodyPost, results, Tryz.results6, go_sem, r0, r1, r2, d2]
    have hf := past_hit P2 k E2 hc (.int .i64 0) (.int .i64 0) (.int .i64 0)
    rw [ET.out]
    exact ⟨rfl, hf.1.grew ((Grew.refl _).alloc _ _), hf.2.trans ((Grew.refl _).alloc _ _).past⟩
  subst hk
  obtain rfl : x = b := hx.out rfl
  have iX := near_in hA.p iB.l iB.h
  have iY := near_in hA.q iB.m iB.k
  have iD := two_in (subR_in (nearI A.p x.l x.h) A.p) (subR_in (nearI A.q x.m x.k) A.q)
  have c3 := fun W => rless_any c (nearI A.p x.l x.h) (nearI A.q x.m x.k) A.p A.q W iX iY hA.p hA.q
  have v1 := @htwo_vals (subR (nearI A.p x.l x.h) A.p) (subR (nearI A.q x.m x.k) A.q)
  have n2 := n1 rfl
  unfold edgeV at n2
  generalize (subR (nearI A.p x.l x.h) A.p).1 = dx at *
  generalize (subR (nearI A.q x.m x.k) A.q).1 = dy at *
  generalize two (subR (nearI A.p x.l x.h) A.p) (subR (nearI A.q x.m x.k) A.q) = D at *
  obtain ⟨ex, ey, i⟩ := D
  simp only at iD c3 v1 n2
  generalize nearI A.p x.l x.h = gx at *
  generalize nearI A.q x.m x.k = gy at *
  unfold vec at c3
  have C3 : Hid _ := c3
  clear c3 n0 n1 iX iY hx iB
  by_cases hk : i = 0
  case neg =>
    have ET : Hid (T = ((⟨0, 0, 0⟩, false), i)) := n2.trans (ifH_no hk _)
    have CU : Hid (∀ W x y, Err W c 0 i → Calls Tryz.prog 14 #[.pointer (some ⟨c, 0, none⟩), .agg #[.int .i64 x, .int .i64 y]] W fun e w' => e = .returned (.tuple #[.agg #[.int .i64 0, .int .i64 0], .int .i64 0]) ∧ Err w' c 0 i ∧ Past c W w') := fun W x y hE => runit_no c x y i W hk hE
    have hk' : (i == 0) = false := by simpa using hk
    clear n2 v1 iD hA hB hk
    go_wp2_with (first
      | (go_at_call 13; go_fit (C3.out _ Ec); rintro e V ⟨⟨p, q, rfl, hpq⟩, E1, U1⟩)
      | (go_at_call 14; go_fit (CU.out _ _ _ E1); rintro e V2 ⟨rfl, E2, U2⟩; have P2 := (Pc.out.trans U1).trans U2; have F2 := (Fc.out.past U1 hc).past U2 hc; clear a0 a1 a2 a3 a4 a5 a6 a7 b0 b1 b2 b3 b4 b5 b6 b7 r0 r1 r2 z0 z1 z2; obtain ⟨⟨a0, a1, a2, a3, a4, a5, a6, a7⟩, ⟨b0, b1, b2, b3, b4, b5, b6, b7⟩, ⟨r0, r1, r2⟩, zz⟩ := id F2; have z0 := zz 0 none; have z1 := zz 1 none; have z2 := zz 2 none; clear zz; have d0 : w.heap.size < V2.heap.size := (cell_block a0); have d1 : w.heap.size + 1 < V2.heap.size := (cell_block b0); have d2 : w.heap.size + 1 + 1 < V2.heap.size := (cell_block r0); have ec := E2.1; have dc : c < V2.heap.size := (cell_block ec)))
    simp [bodyPost, results, Tryz.results6, go_sem, r0, r1, r2, d2]
    have hf := past_hit P2 i E2 hc (.int .i64 0) (.int .i64 0) (.int .i64 0)
    rw [ET.out]
    exact ⟨rfl, hf.1.grew ((Grew.refl _).alloc _ _), hf.2.trans ((Grew.refl _).alloc _ _).past⟩
  subst hk
  obtain ⟨rfl, rfl⟩ : ex = dx ∧ ey = dy := v1 rfl
  have n3 : T = ballU A B (unitR ex ey) := n2.trans (ifH_ok rfl _)
  have c4 := fun W => runit_any c ex ey W iD.1 iD.2
  have iU := (unitR_in iD.1 iD.2).1
  clear n2 v1 iD
  generalize unitR ex ey = u at *
  obtain ⟨⟨ux, uy⟩, l, j⟩ := u
  simp only at c4 iU
  unfold vec at c4
  have C4 : Hid (∀ W, Err W c 0 0 → Calls Tryz.prog 14 #[.pointer (some ⟨c, 0, none⟩), .agg #[.int .i64 ex, .int .i64 ey]] W fun e w' => (∃ p' q' n', e = .returned (.tuple #[.agg #[.int .i64 p', .int .i64 q'], .int .i64 n']) ∧ Hid (j = 0 → p' = ux ∧ q' = uy ∧ n' = l)) ∧ Err w' c 0 j ∧ Past c W w') := c4
  clear c4
  by_cases hk : j = 0
  case neg =>
    have ET : Hid (T = ((⟨0, 0, 0⟩, false), j)) := n3.trans (ifH_no hk _)
    have hk' : (j == 0) = false := by simpa using hk
    clear n3 iU hA hB hk
    go_wp2_with (first
      | (go_at_call 13; go_fit (C3.out _ Ec); rintro e V ⟨⟨p, q, rfl, hpq⟩, E1, U1⟩; obtain ⟨rfl, rfl⟩ := hpq (by trivial))
      | (go_at_call 14; go_fit (C4.out _ E1); rintro e V2 ⟨⟨p', q', n', rfl, hu⟩, E2, U2⟩; have P2 := (Pc.out.trans U1).trans U2; have F2 := (Fc.out.past U1 hc).past U2 hc; clear a0 a1 a2 a3 a4 a5 a6 a7 b0 b1 b2 b3 b4 b5 b6 b7 r0 r1 r2 z0 z1 z2; obtain ⟨⟨a0, a1, a2, a3, a4, a5, a6, a7⟩, ⟨b0, b1, b2, b3, b4, b5, b6, b7⟩, ⟨r0, r1, r2⟩, zz⟩ := id F2; have z0 := zz 0 none; have z1 := zz 1 none; have z2 := zz 2 none; clear zz; have d0 : w.heap.size < V2.heap.size := (cell_block a0); have d1 : w.heap.size + 1 < V2.heap.size := (cell_block b0); have d2 : w.heap.size + 1 + 1 < V2.heap.size := (cell_block r0); have ec := E2.1; have dc : c < V2.heap.size := (cell_block ec)))
    simp [bodyPost, results, Tryz.results6, go_sem, r0, r1, r2, d2]
    have hf := past_hit P2 j E2 hc (.int .i64 0) (.int .i64 0) (.int .i64 0)
    rw [ET.out]
    exact ⟨rfl, hf.1.grew ((Grew.refl _).alloc _ _), hf.2.trans ((Grew.refl _).alloc _ _).past⟩
  subst hk
  by_cases hl : l = 0
  · have ET : Hid (T = crateR ⟨2, A.a, A.a, A.m, A.p, A.q, A.u, A.v⟩ B) := by show T = _; rw [n3, ballU_in rfl hl]; rfl
    have CR : Hid (∀ W, Err W c 0 0 → _) := fun W => rcrates_any c ⟨2, A.a, A.a, A.m, A.p, A.q, A.u, A.v⟩ B ⟨⟨show (-9223372036854775808 : Int) ≤ 2 by decide, show (2 : Int) ≤ 9223372036854775807 by decide⟩, hA.a, hA.a, hA.m, hA.p, hA.q, hA.u, hA.v⟩ hB W
    generalize crateR ⟨2, A.a, A.a, A.m, A.p, A.q, A.u, A.v⟩ B = T2 at *
    unfold Bd.val at CR
    simp only at CR
    subst hl
    clear n3 iU hA hB
    go_wp2_with (first
      | (go_at_call 13; go_fit (C3.out _ Ec); rintro e V ⟨⟨p, q, rfl, hpq⟩, E1, U1⟩; obtain ⟨rfl, rfl⟩ := hpq (by trivial))
      | (go_at_call 14; go_fit (C4.out _ E1); rintro e V2 ⟨⟨p', q', n', rfl, hu⟩, E2, U2⟩; obtain ⟨rfl, rfl, rfl⟩ := hu.out (by trivial); have zv0 := U2.frozen (p := ⟨w.heap.size, 0, none⟩) (Nat.lt_of_lt_of_le Fc.out.a.size U1.size) (by simp only; omega) (U1.frozen (p := ⟨w.heap.size, 0, none⟩) Fc.out.a.size (by simp only; omega) (zc.out 0 none)); have zv2 := U2.frozen (p := ⟨w.heap.size, 2, none⟩) (Nat.lt_of_lt_of_le Fc.out.a.size U1.size) (by simp only; omega) (U1.frozen (p := ⟨w.heap.size, 2, none⟩) Fc.out.a.size (by simp only; omega) (zc.out 2 none)); have P2 := (Pc.out.trans U1).trans U2; have F2 := (Fc.out.past U1 hc).past U2 hc; clear a0 a1 a2 a3 a4 a5 a6 a7 b0 b1 b2 b3 b4 b5 b6 b7 r0 r1 r2 z0 z1 z2; obtain ⟨⟨a0, a1, a2, a3, a4, a5, a6, a7⟩, ⟨b0, b1, b2, b3, b4, b5, b6, b7⟩, ⟨r0, r1, r2⟩, zz⟩ := id F2; have z0 := zz 0 none; have z1 := zz 1 none; have z2 := zz 2 none; clear zz; have d0 : w.heap.size < V2.heap.size := (cell_block a0); have d1 : w.heap.size + 1 < V2.heap.size := (cell_block b0); have d2 : w.heap.size + 1 + 1 < V2.heap.size := (cell_block r0); have ec := E2.1; have dc : c < V2.heap.size := (cell_block ec))
      | (go_at_call 17; have KX : Wrote (fun n => n = w.heap.size) V2 ((V2.setCell ⟨w.heap.size, 0, none⟩ (.int .i64 2)).setCell ⟨w.heap.size, 2, none⟩ (.int .i64 A.a)) := ((Wrote.refl _ V2).set (S := fun n => n = w.heap.size) rfl _ _ _).set (S := fun n => n = w.heap.size) rfl _ _ _; have EX := (Err.past (N := w.heap.size) (o := 2) (Err.past (N := w.heap.size) (o := 0) E2 (by omega) (.int .i64 2) rfl) (by omega) (.int .i64 A.a) rfl).grew ((Grew.refl ((V2.setCell ⟨w.heap.size, 0, none⟩ (.int .i64 2)).setCell ⟨w.heap.size, 2, none⟩ (.int .i64 A.a))).alloc #[.int .i64 p', .int .i64 q'] 26); go_fit (CR.out _ EX); rintro e V5 ⟨hok, E9, U5⟩; unfold okH at hok; subst hok; have P9 := (((P2.setNew (N := w.heap.size) (Nat.le_refl _) 0 none (.int .i64 2)).setNew (N := w.heap.size) (Nat.le_refl _) 2 none (.int .i64 A.a)).trans ((Grew.refl ((V2.setCell ⟨w.heap.size, 0, none⟩ (.int .i64 2)).setCell ⟨w.heap.size, 2, none⟩ (.int .i64 A.a))).alloc #[.int .i64 p', .int .i64 q'] 26).past).trans U5; have H8 := (F2.h.wrote KX (by first | omega | (simp only; omega))).grew ((Grew.refl ((V2.setCell ⟨w.heap.size, 0, none⟩ (.int .i64 2)).setCell ⟨w.heap.size, 2, none⟩ (.int .i64 A.a))).alloc #[.int .i64 p', .int .i64 q'] 26); have H9 := H8.heap (U5.block _ H8.size (by omega)); have Z8 := (F2.z.wrote KX (by first | omega | (simp only; omega)) F2.h.size).grew ((Grew.refl ((V2.setCell ⟨w.heap.size, 0, none⟩ (.int .i64 2)).setCell ⟨w.heap.size, 2, none⟩ (.int .i64 A.a))).alloc #[.int .i64 p', .int .i64 q'] 26); have Z9 : Free V5 (w.heap.size + 1 + 1) := fun o s => U5.frozen (p := ⟨w.heap.size + 1 + 1, o, s⟩) H8.size (by simp only; omega) (Z8 o s); clear r0 r1 r2 z0 z1 z2; obtain ⟨r0, r1, r2⟩ := H9; have z0 := Z9 0 none; have z1 := Z9 1 none; have z2 := Z9 2 none))
    simp [bodyPost, results, Tryz.results6, go_sem, r0, r1, r2]
    rw [ET.out]
    exact ⟨rfl, past_hit P9 _ E9 hc _ _ _⟩
  · have hl' : (l == 0) = false := by simpa using hl
    have c5 := fun W => rsub_k c 0 0 A.a l W hA.a iU
    have eS : T = ifH (subR A.a l).2 (contactH ux uy (subR A.a l).1, 0) := by rw [n3]; unfold ballU; rw [ifH_ok rfl, if_neg hl]
    have zz : 0 < (subR A.a l).1 → (subR A.a l).2 = 0 := fun g => Decidable.byContradiction fun g' => by have := inR_zero g'; unfold subR at g; omega
    simp only [ifK_ok] at c5
    generalize subR A.a l = Y at *
    obtain ⟨Y, m⟩ := Y
    simp only at c5 eS zz
    have C5 : Hid _ := c5
    have HS : Hid _ := eS
    have HZ : Hid (0 < Y → m = 0) := zz
    clear c5 eS zz n3 iU hA hB hl
    have sub : True := trivial
    by_cases hY : Y ≤ 0
    · have eT : T = ((⟨0, 0, 0⟩, false), m) := by
        rw [HS.out]
        by_cases hm : m = 0
        · rw [ifH_ok hm, hm]
          unfold contactH
          rw [if_pos hY]
        · exact ifH_no hm _
      have ET : Hid (_ = _) := eT
      clear eT HS HZ
      go_wp2_with (first
        | (go_at_call 13; go_fit (C3.out _ Ec); rintro e V ⟨⟨p, q, rfl, hpq⟩, E1, U1⟩; obtain ⟨rfl, rfl⟩ := hpq (by trivial))
        | (go_at_call 14; go_fit (C4.out _ E1); rintro e V2 ⟨⟨p', q', n', rfl, hu⟩, E2, U2⟩; obtain ⟨rfl, rfl, rfl⟩ := hu.out (by trivial); have P2 := (Pc.out.trans U1).trans U2; have F2 := (Fc.out.past U1 hc).past U2 hc; clear a0 a1 a2 a3 a4 a5 a6 a7 b0 b1 b2 b3 b4 b5 b6 b7 r0 r1 r2 z0 z1 z2; obtain ⟨⟨a0, a1, a2, a3, a4, a5, a6, a7⟩, ⟨b0, b1, b2, b3, b4, b5, b6, b7⟩, ⟨r0, r1, r2⟩, zz⟩ := id F2; have z0 := zz 0 none; have z1 := zz 1 none; have z2 := zz 2 none; clear zz; have d0 : w.heap.size < V2.heap.size := (cell_block a0); have d1 : w.heap.size + 1 < V2.heap.size := (cell_block b0); have d2 : w.heap.size + 1 + 1 < V2.heap.size := (cell_block r0); have ec := E2.1; have dc : c < V2.heap.size := (cell_block ec))
        | (go_at_call 16; go_fit (C5.out _ (E2.grew ((Grew.refl V2).alloc #[.int .i64 p', .int .i64 q'] 26))); rintro e V3 ⟨rfl, E9, U3⟩; have P9 := (P2.trans ((Grew.refl V2).alloc #[.int .i64 p', .int .i64 q'] 26).past).trans U3; have F9 := (F2.past ((Grew.refl V2).alloc #[.int .i64 p', .int .i64 q'] 26).past (c := c) hc).past U3 hc; have N9 : At V3 V2.heap.size p' q' := (show At (V2.alloc (.cells #[.int .i64 p', .int .i64 q'] 26)) V2.heap.size p' q' from ⟨by simp [go_sem], by simp [go_sem]⟩).past U3 (by have := P2.size; omega); clear d0 d1 d2 ec dc; clear a0 a1 a2 a3 a4 a5 a6 a7 b0 b1 b2 b3 b4 b5 b6 b7 r0 r1 r2 z0 z1 z2; obtain ⟨⟨a0, a1, a2, a3, a4, a5, a6, a7⟩, ⟨b0, b1, b2, b3, b4, b5, b6, b7⟩, ⟨r0, r1, r2⟩, zz⟩ := id F9; have z0 := zz 0 none; have z1 := zz 1 none; have z2 := zz 2 none; clear zz; obtain ⟨q0, q1⟩ := N9))
      simp [bodyPost, results, Tryz.results6, go_sem, r0, r1, r2]
      rw [ET.out]
      exact ⟨rfl, past_hit P9 m E9 hc _ _ _⟩
    · obtain rfl : m = 0 := HZ.out (by omega)
      have ET : Hid (T = ((⟨ux, uy, Y⟩, true), 0)) := by
        show T = _
        rw [HS.out, ifH_ok rfl]
        unfold contactH
        rw [if_neg hY]
      clear HS HZ
      go_wp2_with (first
        | (go_at_call 13; go_fit (C3.out _ Ec); rintro e V ⟨⟨p, q, rfl, hpq⟩, E1, U1⟩; obtain ⟨rfl, rfl⟩ := hpq (by trivial))
        | (go_at_call 14; go_fit (C4.out _ E1); rintro e V2 ⟨⟨p', q', n', rfl, hu⟩, E2, U2⟩; obtain ⟨rfl, rfl, rfl⟩ := hu.out (by trivial); have P2 := (Pc.out.trans U1).trans U2; have F2 := (Fc.out.past U1 hc).past U2 hc; clear a0 a1 a2 a3 a4 a5 a6 a7 b0 b1 b2 b3 b4 b5 b6 b7 r0 r1 r2 z0 z1 z2; obtain ⟨⟨a0, a1, a2, a3, a4, a5, a6, a7⟩, ⟨b0, b1, b2, b3, b4, b5, b6, b7⟩, ⟨r0, r1, r2⟩, zz⟩ := id F2; have z0 := zz 0 none; have z1 := zz 1 none; have z2 := zz 2 none; clear zz; have d0 : w.heap.size < V2.heap.size := (cell_block a0); have d1 : w.heap.size + 1 < V2.heap.size := (cell_block b0); have d2 : w.heap.size + 1 + 1 < V2.heap.size := (cell_block r0); have ec := E2.1; have dc : c < V2.heap.size := (cell_block ec))
        | (go_at_call 16; go_fit (C5.out _ (E2.grew ((Grew.refl V2).alloc #[.int .i64 p', .int .i64 q'] 26))); rintro e V3 ⟨rfl, E9, U3⟩; have P9 := (P2.trans ((Grew.refl V2).alloc #[.int .i64 p', .int .i64 q'] 26).past).trans U3; have F9 := (F2.past ((Grew.refl V2).alloc #[.int .i64 p', .int .i64 q'] 26).past (c := c) hc).past U3 hc; have N9 : At V3 V2.heap.size p' q' := (show At (V2.alloc (.cells #[.int .i64 p', .int .i64 q'] 26)) V2.heap.size p' q' from ⟨by simp [go_sem], by simp [go_sem]⟩).past U3 (by have := P2.size; omega); clear d0 d1 d2 ec dc; clear a0 a1 a2 a3 a4 a5 a6 a7 b0 b1 b2 b3 b4 b5 b6 b7 r0 r1 r2 z0 z1 z2; obtain ⟨⟨a0, a1, a2, a3, a4, a5, a6, a7⟩, ⟨b0, b1, b2, b3, b4, b5, b6, b7⟩, ⟨r0, r1, r2⟩, zz⟩ := id F9; have z0 := zz 0 none; have z1 := zz 1 none; have z2 := zz 2 none; clear zz; obtain ⟨q0, q1⟩ := N9))
      simp [bodyPost, results, Tryz.results6, go_sem, r0, r1, r2]
      rw [ET.out]
      exact ⟨rfl, past_hit P9 0 E9 hc _ _ _⟩
set_option maxRecDepth 10000 in
set_option maxHeartbeats 4000000 in
theorem rhit21_any (c : Nat) (A B : Bd) (hA : A.ok) (hB : B.ok) (sA : A.s = 2) (sB : B.s = 1) (w : World) (h : Err w c 0 0) :
    Calls Tryz.prog 6 #[.pointer (some ⟨c, 0, none⟩), A.val, B.val] w fun e w' => okH (hitR A B) e ∧ Err w' c 0 (hitR A B).2 ∧ Past c w w' := by
  have hc : c < w.heap.size := cell_block h.1
  have x1 : (A.s == 1) = false := by simp [sA]
  have x2 : (A.s == 2) = true := by simp [sA]
  have y1 : (B.s == 1) = true := by simp [sB]
  have y2 : (B.s == 2) = false := by simp [sB]
  rw [hitR_21 sA sB]
  have td := ballR_tidy B A
  have C1 : Hid (∀ W, Err W c 0 0 → Calls Tryz.prog 6 #[.pointer (some ⟨c, 0, none⟩), B.val, A.val] W fun e w' => okH (ballR B A) e ∧ Err w' c 0 (ballR B A).2 ∧ Past c W w') := fun W hE => by
    have := rhit12_any c B A hB hA sB sA W hE
    rw [hitR_12 sB sA] at this
    exact this
  have og := @ballR_ok B A
  have ft : flipB (ballR B A) = ifH (ballR B A).2 (ifH (flipR (ballR B A).1.1).2 (((flipR (ballR B A).1.1).1, (ballR B A).1.2), 0)) := rfl
  generalize flipB (ballR B A) = T at *
  generalize ballR B A = r at *
  obtain ⟨⟨g, b⟩, k⟩ := r
  obtain ⟨td1, td2, td3⟩ := td
  simp only at td1 td2 C1 og ft
  have fl := flip_ok td3.1 td3.2
  simp only at fl
  unfold okH at C1
  unfold Bd.val at C1
  simp only at C1
  rw [fl] at ft
  have CF : Hid (∀ W, Err W c 0 0 → _) := fun W => rflip_any c g og W
  rw [fl] at CF
  simp only at ft CF
  rw [ifH_ok rfl] at ft
  clear hA hB sA sB og fl td3
  obtain ⟨W, hW⟩ : ∃ W, W = ((w.alloc (.cells #[.int .i64 A.s, .int .i64 A.a, .int .i64 A.b, .int .i64 A.m, .int .i64 A.p, .int .i64 A.q, .int .i64 A.u, .int .i64 A.v] 28)).alloc (.cells #[.int .i64 B.s, .int .i64 B.a, .int .i64 B.b, .int .i64 B.m, .int .i64 B.p, .int .i64 B.q, .int .i64 B.u, .int .i64 B.v] 28)).alloc (.cells #[.int .i64 0, .int .i64 0, .int .i64 0] 34) := ⟨_, rfl⟩
  have GW : Grew w W := by rw [hW]; exact (((Grew.refl w).alloc _ _).alloc _ _).alloc _ _
  have sz : W.heap.size = w.heap.size + 1 + 1 + 1 := by rw [hW]; simp [go_sem]
  have F0 : Hid (Fm W w.heap.size A B) := by rw [hW]; exact fm_start w A B
  have E0 := h.grew GW
  have PW : Hid (Past c w W) := GW.past
  have HW : Hid (_ = _) := hW
  clear hW h GW
  unfold Bd.val
  have F0' := F0.out
  obtain ⟨⟨a0, a1, a2, a3, a4, a5, a6, a7⟩, ⟨b0, b1, b2, b3, b4, b5, b6, b7⟩, ⟨r0, r1, r2⟩, zz⟩ := F0'; have z0 := zz 0 none; have z1 := zz 1 none; have z2 := zz 2 none; clear zz
  cases b
  · have eT : T = ((⟨0, 0, 0⟩, false), k) := by
      have := td2 rfl
      subst this
      rw [ft]
      by_cases hk : k = 0
      · rw [ifH_ok hk, hk]; rfl
      · rw [ifH_no hk]
    have ET : Hid (_ = _) := eT
    clear eT ft td1 td2 CF
    go_enter Tryz.func6, Tryz.ntmps6
    go_wp2_with (first
      | (go_at_call 6; rw [← HW.out]; go_fit (C1.out _ E0); rintro e V ⟨rfl, E9, U1⟩; have P9 := PW.out.trans U1; have F9 := F0.out.past U1 hc; clear a0 a1 a2 a3 a4 a5 a6 a7 b0 b1 b2 b3 b4 b5 b6 b7 r0 r1 r2 z0 z1 z2; obtain ⟨⟨a0, a1, a2, a3, a4, a5, a6, a7⟩, ⟨b0, b1, b2, b3, b4, b5, b6, b7⟩, ⟨r0, r1, r2⟩, zz⟩ := id F9; have z0 := zz 0 none; have z1 := zz 1 none; have z2 := zz 2 none; clear zz; have d2 : w.heap.size + 1 + 1 < V.heap.size := (cell_block r0)))
    simp [bodyPost, results, Tryz.results6, go_sem, r0, r1, r2, d2]
    rw [ET.out]
    have hf := past_hit P9 k E9 hc (.int .i64 0) (.int .i64 0) (.int .i64 0)
    exact ⟨rfl, hf.1.grew ((Grew.refl _).alloc _ _), hf.2.trans ((Grew.refl _).alloc _ _).past⟩
  · obtain rfl : k = 0 := Decidable.byContradiction fun h => by have := td1 h; cases this
    have ET : Hid (T = ((⟨-g.x, -g.y, g.d⟩, true), 0)) := by show T = _; rw [ft, ifH_ok rfl]
    clear ft td1 td2
    go_enter Tryz.func6, Tryz.ntmps6
    go_wp2_with (first
      | (go_at_call 6; rw [← HW.out]; go_fit (C1.out _ E0); rintro e V ⟨rfl, E1, U1⟩; have P1 := PW.out.trans U1; have F1 := F0.out.past U1 hc; clear a0 a1 a2 a3 a4 a5 a6 a7 b0 b1 b2 b3 b4 b5 b6 b7 r0 r1 r2 z0 z1 z2; obtain ⟨⟨a0, a1, a2, a3, a4, a5, a6, a7⟩, ⟨b0, b1, b2, b3, b4, b5, b6, b7⟩, ⟨r0, r1, r2⟩, zz⟩ := id F1; have z0 := zz 0 none; have z1 := zz 1 none; have z2 := zz 2 none; clear zz; have d2 : w.heap.size + 1 + 1 < V.heap.size := (cell_block r0))
      | (go_at_call 20; go_fit (CF.out _ (E1.grew ((Grew.refl V).alloc #[.int .i64 g.x, .int .i64 g.y, .int .i64 g.d] 34))); rintro e V2 ⟨⟨v, rfl, hv⟩, E9, U2⟩; obtain rfl := hv (by trivial); have P9 := (P1.trans ((Grew.refl V).alloc #[.int .i64 g.x, .int .i64 g.y, .int .i64 g.d] 34).past).trans U2; have F9 := (F1.past ((Grew.refl V).alloc #[.int .i64 g.x, .int .i64 g.y, .int .i64 g.d] 34).past (c := c) hc).past U2 hc; clear d2; clear a0 a1 a2 a3 a4 a5 a6 a7 b0 b1 b2 b3 b4 b5 b6 b7 r0 r1 r2 z0 z1 z2; obtain ⟨⟨a0, a1, a2, a3, a4, a5, a6, a7⟩, ⟨b0, b1, b2, b3, b4, b5, b6, b7⟩, ⟨r0, r1, r2⟩, zz⟩ := id F9; have z0 := zz 0 none; have z1 := zz 1 none; have z2 := zz 2 none; clear zz))
    simp [bodyPost, results, Tryz.results6, go_sem, r0, r1, r2]
    rw [ET.out]
    exact ⟨rfl, past_hit P9 0 E9 hc _ _ _⟩
set_option maxRecDepth 10000 in
set_option maxHeartbeats 4000000 in
theorem rhit00_any (c : Nat) (A B : Bd) (h1 : ¬ (A.s = 1 ∧ B.s = 1)) (h2 : ¬ (A.s = 2 ∧ B.s = 2)) (h3 : ¬ (A.s = 1 ∧ B.s = 2)) (h4 : ¬ (A.s = 2 ∧ B.s = 1)) (w : World) (h : Err w c 0 0) :
    Calls Tryz.prog 6 #[.pointer (some ⟨c, 0, none⟩), A.val, B.val] w fun e w' => okH (hitR A B) e ∧ Err w' c 0 (hitR A B).2 ∧ Past c w w' := by
  have hc : c < w.heap.size := cell_block h.1
  rw [hitR_no h1 h2 h3 h4]
  have hs : ((A.s == 1) = false ∧ (A.s == 2) = false) ∨ ((B.s == 1) = false ∧ (B.s == 2) = false) := by
    simp only [beq_eq_false_iff_ne, ne_eq]
    omega
  have HG : Hid (∀ x, Grew w (((w.alloc (.cells #[.int .i64 A.s, .int .i64 A.a, .int .i64 A.b, .int .i64 A.m, .int .i64 A.p, .int .i64 A.q, .int .i64 A.u, .int .i64 A.v] 28)).alloc (.cells #[.int .i64 B.s, .int .i64 B.a, .int .i64 B.b, .int .i64 B.m, .int .i64 B.p, .int .i64 B.q, .int .i64 B.u, .int .i64 B.v] 28)).alloc (.cells x 34))) := fun x => (((Grew.refl w).alloc _ _).alloc _ _).alloc _ _
  have HE : Hid (Err w c 0 0) := h
  clear h1 h2 h3 h4 h
  unfold Bd.val
  by_cases x1 : (A.s == 1) = true
  · have x2 : (A.s == 2) = false := by simp at x1 ⊢; omega
    obtain ⟨y1, y2⟩ : (B.s == 1) = false ∧ (B.s == 2) = false := by rcases hs with h | h; (rw [x1] at h; cases h.1); exact h
    clear hs
    go_enter Tryz.func6, Tryz.ntmps6
    go_wp2
    simp [bodyPost, results, Tryz.results6, go_sem]
    exact ⟨rfl, HE.out.grew (HG.out _), (HG.out _).past⟩
  · replace x1 : (A.s == 1) = false := by simpa using x1
    by_cases x2 : (A.s == 2) = true
    · obtain ⟨y1, y2⟩ : (B.s == 1) = false ∧ (B.s == 2) = false := by rcases hs with h | h; (rw [x2] at h; cases h.2); exact h
      clear hs
      go_enter Tryz.func6, Tryz.ntmps6
      go_wp2
      simp [bodyPost, results, Tryz.results6, go_sem]
      exact ⟨rfl, HE.out.grew (HG.out _), (HG.out _).past⟩
    · replace x2 : (A.s == 2) = false := by simpa using x2
      clear hs
      go_enter Tryz.func6, Tryz.ntmps6
      go_wp2
      simp [bodyPost, results, Tryz.results6, go_sem]
      exact ⟨rfl, HE.out.grew (HG.out _), (HG.out _).past⟩
theorem rhit_any (c : Nat) (A B : Bd) (hA : A.ok) (hB : B.ok) (w : World) (h : Err w c 0 0) :
    Calls Tryz.prog 6 #[.pointer (some ⟨c, 0, none⟩), A.val, B.val] w fun e w' => okH (hitR A B) e ∧ Err w' c 0 (hitR A B).2 ∧ Past c w w' := by
  by_cases h1 : A.s = 1 ∧ B.s = 1
  · exact rhit11_any c A B hA hB h1.1 h1.2 w h
  by_cases h2 : A.s = 2 ∧ B.s = 2
  · exact rhit22_any c A B hA hB h2.1 h2.2 w h
  by_cases h3 : A.s = 1 ∧ B.s = 2
  · exact rhit12_any c A B hA hB h3.1 h3.2 w h
  by_cases h4 : A.s = 2 ∧ B.s = 1
  · exact rhit21_any c A B hA hB h4.1 h4.2 w h
  exact rhit00_any c A B h1 h2 h3 h4 w h
end Go.Proofs.YtcoooehcgbohgaaGreat
