/-
  The document's own word on contacts (maquetteref1's crates and Flip).
-/
import Derived.Test.YtcoooehcgbohgaaGreatPxHRef
import Derived.Deep.CutRange
import Derived.Deep.CutBlock
namespace Go.Proofs.YtcoooehcgbohgaaGreat
open Go.RowKit

theorem htwo_vals {r s : Int × Int} (h : (two r s).2.2 = 0) : (two r s).1 = r.1 ∧ (two r s).2.1 = s.1 := by
  obtain ⟨h1, h2⟩ := two_fst h
  rw [two_ok h1 h2]
  exact ⟨rfl, rfl⟩
def okH (r : (Ht × Bool) × Int) (e : Ending) : Prop := e = .returned (.tuple #[.agg #[.int .i64 r.1.1.x, .int .i64 r.1.1.y, .int .i64 r.1.1.d], .bool r.1.2])

set_option maxHeartbeats 4000000 in
theorem rcrates_any (c : Nat) (A B : Bd) (hA : A.ok) (hB : B.ok) (w : World) (h : Err w c 0 0) :
    Calls Tryz.prog 17 #[.pointer (some ⟨c, 0, none⟩), A.val, B.val] w fun e w' => okH (crateR A B) e ∧ Err w' c 0 (crateR A B).2 ∧ Past c w w' := by
  have hc : c < w.heap.size := cell_block h.1
  have iD := two_in (subR_in B.p A.p) (subR_in B.q A.q)
  have c1 := fun W => rless_any c B.p B.q A.p A.q W hB.p hB.q hA.p hA.q
  have v1 := @htwo_vals (subR B.p A.p) (subR B.q A.q)
  have eD : gapV A B = two (subR B.p A.p) (subR B.q A.q) := rfl
  have n0 : ¬ (gapV A B).2.2 = 0 → crateR A B = ((⟨0, 0, 0⟩, false), (gapV A B).2.2) := fun g => ifH_no g _
  have n1 := @crate_ok1 A B
  rw [eD] at n0 n1
  generalize crateR A B = T at *
  generalize (subR B.p A.p).1 = dx at *
  generalize (subR B.q A.q).1 = dy at *
  generalize two (subR B.p A.p) (subR B.q A.q) = D at *
  obtain ⟨x, y, k⟩ := D
  simp only at iD n0 n1 c1 v1
  unfold vec at c1
  have C1 : Hid _ := c1
  clear c1 eD
  obtain ⟨W, hW⟩ : ∃ W, W = ((w.alloc (.cells #[.int .i64 A.s, .int .i64 A.a, .int .i64 A.b, .int .i64 A.m, .int .i64 A.p, .int .i64 A.q, .int .i64 A.u, .int .i64 A.v] 28)).alloc (.cells #[.int .i64 B.s, .int .i64 B.a, .int .i64 B.b, .int .i64 B.m, .int .i64 B.p, .int .i64 B.q, .int .i64 B.u, .int .i64 B.v] 28)).alloc (.cells #[.int .i64 0, .int .i64 0, .int .i64 0] 34) := ⟨_, rfl⟩
  have GW : Grew w W := by rw [hW]; exact (((Grew.refl w).alloc _ _).alloc _ _).alloc _ _
  have sz : W.heap.size = w.heap.size + 1 + 1 + 1 := by rw [hW]; simp [go_sem]
  have F0 : Hid (Fm W w.heap.size A B) := by rw [hW]; exact fm_start w A B
  have E0 := h.grew GW
  have PW : Hid (Past c w W) := GW.past
  have HW : Hid (_ = _) := hW
  clear hW h GW
  unfold Bd.val
  have F0' := F0.out
  obtain ⟨⟨a0, a1, a2, a3, a4, a5, a6, a7⟩, ⟨b0, b1, b2, b3, b4, b5, b6, b7⟩, ⟨r0, r1, r2⟩, zz⟩ := F0'; have z0 := zz 0 none; have z1 := zz 1 none; have z2 := zz 2 none; clear zz
  by_cases hk : k = 0
  case neg =>
    rw [n0 hk]
    have CA : Hid (∀ W x y, Err W c 0 k → Calls Tryz.prog 15 #[.pointer (some ⟨c, 0, none⟩), .int .i64 x, .int .i64 y] W fun e w' => e = .returned (.int .i64 0) ∧ Err w' c 0 k ∧ Past c W w') := fun W x y hE => radd_no c k x y W hk hE
    have CM : Hid (∀ W x, Err W c 0 k → Calls Tryz.prog 33 #[.pointer (some ⟨c, 0, none⟩), .int .i64 x] W fun e w' => (∃ v, e = .returned (.int .i64 v)) ∧ Err w' c 0 k ∧ Past c W w') := fun W x hE => ramt_no c k x W hk hE
    have CS : Hid (∀ W x y, Err W c 0 k → Calls Tryz.prog 16 #[.pointer (some ⟨c, 0, none⟩), .int .i64 x, .int .i64 y] W fun e w' => e = .returned (.int .i64 0) ∧ Err w' c 0 k ∧ Past c W w') := fun W x y hE => rsub_no c k x y W hk hE
    clear n0 n1 v1 iD hA hB hk
    go_enter Tryz.func17, Tryz.ntmps17
    go_upto_region 2 with (first
      | (go_at_call 13; rw [← HW.out]; go_fit (C1.out _ E0); rintro e V ⟨⟨p, q, rfl, hpq⟩, E1, U1⟩))
    obtain ⟨L, hL⟩ : ∃ L, L = V.alloc (.cells #[.int .i64 p, .int .i64 q] 26) := ⟨_, rfl⟩
    rw [← hL]
    have gL : Grew V L := by rw [hL]; exact (Grew.refl V).alloc _ _
    have sL : L.heap.size = V.heap.size + 1 := by rw [hL]; simp [go_sem]
    have AL : At L V.heap.size p q := by rw [hL]; constructor <;> simp [go_sem]
    have FL : Hid (Fm L w.heap.size A B) := ((F0.out.past U1 hc).past gL.past (c := c) hc)
    have PL : Hid (Past c w L) := (PW.out.trans U1).trans gL.past
    have EL : Err L.drew c 0 k := (E1.grew gL).grew (Grew.refl L).drew
    have sV := U1.size
    clear hL gL a0 a1 a2 a3 a4 a5 a6 a7 b0 b1 b2 b3 b4 b5 b6 b7 r0 r1 r2 z0 z1 z2 C1 E0
    obtain ⟨q0, q1⟩ := AL
    have FL' := FL.out
    obtain ⟨⟨a0, a1, a2, a3, a4, a5, a6, a7⟩, ⟨b0, b1, b2, b3, b4, b5, b6, b7⟩, ⟨r0, r1, r2⟩, zz⟩ := FL'
    have z0 := zz 0 none
    have z1 := zz 1 none
    have z2 := zz 2 none
    clear zz
    clear U1 E1 F0 PW HW
    go_region_held2 (fun w' => w'.cell? ⟨w.heap.size, 1, none⟩ = some (.int .i64 A.a) ∧ w'.cell? ⟨w.heap.size + 1, 1, none⟩ = some (.int .i64 B.a) ∧ w'.cell? ⟨V.heap.size, 0, none⟩ = some (.int .i64 p)) (go_keep)
      (first
        | (go_at_call 15; go_fit (CA.out _ _ _ EL); rintro e V2 ⟨rfl, E2, U2⟩; have s2 := U2.size; (try (simp at s2)); have k2a := U2.cells (b := w.heap.size) (by first | omega | (simp; omega)) (by omega); have k2b := U2.cells (b := w.heap.size + 1) (by first | omega | (simp; omega)) (by omega); have k2c := U2.cells (b := V.heap.size) (by first | omega | (simp; omega)) (by omega))
        | (go_at_call 33; go_fit (CM.out _ _ E2); rintro e V3 ⟨⟨vv, rfl⟩, E3, U3⟩; have s3 := U3.size; (try (simp at s3)); have k3a := U3.cells (b := w.heap.size) (by first | omega | (simp; omega)) (by omega); have k3b := U3.cells (b := w.heap.size + 1) (by first | omega | (simp; omega)) (by omega); have k3c := U3.cells (b := V.heap.size) (by first | omega | (simp; omega)) (by omega))
        | (go_at_call 16; go_fit (CS.out _ _ _ E3); rintro e V4 ⟨rfl, E4, U4⟩; have s4 := U4.size; (try (simp at s4)); have k4a := U4.cells (b := w.heap.size) (by first | omega | (simp; omega)) (by omega); have k4b := U4.cells (b := w.heap.size + 1) (by first | omega | (simp; omega)) (by omega); have k4c := U4.cells (b := V.heap.size) (by first | omega | (simp; omega)) (by omega)))
    have P4 : Past c w V4 := (((PL.out.trans (Grew.refl L).drew.past).trans U2).trans U3).trans U4
    have F4 := (((FL.out.past (Grew.refl L).drew.past (c := c) hc).past U2 hc).past U3 hc).past U4 hc
    clear a0 a1 a2 a3 a4 a5 a6 a7 b0 b1 b2 b3 b4 b5 b6 b7 r0 r1 r2 z0 z1 z2
    obtain ⟨⟨a0, a1, a2, a3, a4, a5, a6, a7⟩, ⟨b0, b1, b2, b3, b4, b5, b6, b7⟩, ⟨r0, r1, r2⟩, zz⟩ := F4
    have z0 := zz 0 none
    have z1 := zz 1 none
    have z2 := zz 2 none
    clear zz
    go_wp2
    have hf := past_hit P4 k E4 hc (.int .i64 0) (.int .i64 0) (.int .i64 0)
    simp [bodyPost, results, Tryz.results17, go_sem, r0, r1, r2]
    exact ⟨rfl, hf⟩
  subst hk
  obtain ⟨rfl, rfl⟩ : x = dx ∧ y = dy := v1 rfl
  rw [n1 rfl]
  obtain ⟨s, k1, k2, OX⟩ := overC c hA.a hB.a iD.1
  obtain ⟨s', k1', k2', OY⟩ := overC c hA.b hB.b iD.2
  have zX := @over_zero A.a B.a x
  have zY := @over_zero A.b B.b y
  have e0 := @crates_none A.a A.b B.a B.b x y
  have e1 : ¬ (overR A.a B.a x).2 = 0 → cratesR A.a A.b B.a B.b x y = ((⟨0, 0, 0⟩, false), (overR A.a B.a x).2) := fun g => ifH_no g _
  have e2 : (overR A.a B.a x).2 = 0 → ¬ (overR A.a B.a x).1 ≤ 0 → cratesR A.a A.b B.a B.b x y = ifH (overR A.b B.b y).2 (lessH (overR A.a B.a x).1 (overR A.b B.b y).1 x y, 0) := fun g l => by unfold cratesR; rw [ifH_ok g, if_neg l]
  generalize cratesR A.a A.b B.a B.b x y = T at *
  generalize overR A.a B.a x = X at *
  generalize overR A.b B.b y = Y at *
  obtain ⟨X, i⟩ := X
  obtain ⟨Y, j⟩ := Y
  simp only at e0 e1 e2 zX zY OX OY
  have CA : Hid _ := OX.add
  have CM : Hid _ := OX.amt
  have CS : Hid _ := OX.sub
  have DA : Hid _ := OY.add
  have DM : Hid _ := OY.amt
  have DS : Hid _ := OY.sub
  have HE0 : Hid (i = 0 → X ≤ 0 → T = noneH) := e0
  have HE1 : Hid (¬ i = 0 → T = ((⟨0, 0, 0⟩, false), i)) := e1
  have HE2 : Hid (i = 0 → ¬ X ≤ 0 → T = ifH j (lessH X Y x y, 0)) := e2
  have HZX : Hid (0 < X → i = 0) := zX
  have HZY : Hid (0 < Y → j = 0) := zY
  clear OX OY n0 n1 v1 iD hA hB e0 e1 e2 zX zY
  go_enter Tryz.func17, Tryz.ntmps17
  go_upto_region 2 with (first
    | (go_at_call 13; rw [← HW.out]; go_fit (C1.out _ E0); rintro e V ⟨⟨p, q, rfl, hpq⟩, E1, U1⟩))
  obtain ⟨rfl, rfl⟩ := hpq (by trivial)
  obtain ⟨L, hL⟩ : ∃ L, L = V.alloc (.cells #[.int .i64 p, .int .i64 q] 26) := ⟨_, rfl⟩
  rw [← hL]
  have gL : Grew V L := by rw [hL]; exact (Grew.refl V).alloc _ _
  have sL : L.heap.size = V.heap.size + 1 := by rw [hL]; simp [go_sem]
  have AL : At L V.heap.size p q := by rw [hL]; constructor <;> simp [go_sem]
  have FL : Hid (Fm L w.heap.size A B) := ((F0.out.past U1 hc).past gL.past (c := c) hc)
  have PL : Hid (Past c w L) := (PW.out.trans U1).trans gL.past
  have EL : Err L.drew c 0 0 := (E1.grew gL).grew (Grew.refl L).drew
  have sV := U1.size
  clear hL gL a0 a1 a2 a3 a4 a5 a6 a7 b0 b1 b2 b3 b4 b5 b6 b7 r0 r1 r2 z0 z1 z2 C1 E0
  obtain ⟨q0, q1⟩ := AL
  have FL' := FL.out
  obtain ⟨⟨a0, a1, a2, a3, a4, a5, a6, a7⟩, ⟨b0, b1, b2, b3, b4, b5, b6, b7⟩, ⟨r0, r1, r2⟩, zz⟩ := FL'
  have z0 := zz 0 none
  have z1 := zz 1 none
  have z2 := zz 2 none
  clear zz
  clear U1 E1 F0 PW HW
  go_region_held2 (fun w' => w'.cell? ⟨w.heap.size, 1, none⟩ = some (.int .i64 A.a) ∧ w'.cell? ⟨w.heap.size + 1, 1, none⟩ = some (.int .i64 B.a) ∧ w'.cell? ⟨V.heap.size, 0, none⟩ = some (.int .i64 p)) (go_keep)
    (first
      | (go_at_call 15; go_fit (CA.out _ EL); rintro e V2 ⟨rfl, E2, U2⟩; have s2 := U2.size; (try (simp at s2)); have k2a := U2.cells (b := w.heap.size) (by first | omega | (simp; omega)) (by omega); have k2b := U2.cells (b := w.heap.size + 1) (by first | omega | (simp; omega)) (by omega); have k2c := U2.cells (b := V.heap.size) (by first | omega | (simp; omega)) (by omega))
      | (go_at_call 33; go_fit (CM.out _ E2); rintro e V3 ⟨⟨vv, rfl, hv⟩, E3, U3⟩; have s3 := U3.size; (try (simp at s3)); have k3a := U3.cells (b := w.heap.size) (by first | omega | (simp; omega)) (by omega); have k3b := U3.cells (b := w.heap.size + 1) (by first | omega | (simp; omega)) (by omega); have k3c := U3.cells (b := V.heap.size) (by first | omega | (simp; omega)) (by omega))
      | (go_at_call 16; go_fit (CS.out _ _ hv E3); rintro e V4 ⟨rfl, E4, U4⟩; have s4 := U4.size; (try (simp at s4)); have k4a := U4.cells (b := w.heap.size) (by first | omega | (simp; omega)) (by omega); have k4b := U4.cells (b := w.heap.size + 1) (by first | omega | (simp; omega)) (by omega); have k4c := U4.cells (b := V.heap.size) (by first | omega | (simp; omega)) (by omega)))
  have P4 : Hid (Past c w V4) := (((PL.out.trans (Grew.refl L).drew.past).trans U2).trans U3).trans U4
  have F4 : Hid _ := (((FL.out.past (Grew.refl L).drew.past (c := c) hc).past U2 hc).past U3 hc).past U4 hc
  have A4 : At V4 V.heap.size p q := ((((show At L V.heap.size p q from ⟨q0, q1⟩).past (Grew.refl L).drew.past (c := c) (by omega)).past U2 (by omega)).past U3 (by omega)).past U4 (by omega)
  clear a0 a1 a2 a3 a4 a5 a6 a7 b0 b1 b2 b3 b4 b5 b6 b7 r0 r1 r2 z0 z1 z2 q0 q1 k2a k2b k2c k3a k3b k3c k4a k4b k4c s2 s3 s4 E2 E3 U2 U3 U4 CA CM CS FL PL EL hv
  have F4' := F4.out
  obtain ⟨⟨a0, a1, a2, a3, a4, a5, a6, a7⟩, ⟨b0, b1, b2, b3, b4, b5, b6, b7⟩, ⟨r0, r1, r2⟩, zz⟩ := F4'
  have z0 := zz 0 none
  have z1 := zz 1 none
  have z2 := zz 2 none
  clear zz
  obtain ⟨q0, q1⟩ := A4
  by_cases hX : X ≤ 0
  · have eT : T = ((⟨0, 0, 0⟩, false), i) := by
      by_cases hi : i = 0
      · rw [HE0.out hi (by omega), hi]; rfl
      · exact HE1.out hi
    have ET : Hid (_ = _) := eT
    clear eT HE0 HE1 HE2 HZX HZY DA DM DS
    go_wp2
    have hf := past_hit P4.out i E4 hc (.int .i64 0) (.int .i64 0) (.int .i64 0)
    simp [bodyPost, results, Tryz.results17, go_sem, r0, r1, r2]
    rw [ET.out]
    exact ⟨rfl, hf⟩
  obtain rfl : i = 0 := HZX.out (by omega)
  have HT : Hid (T = ifH j (lessH X Y p q, 0)) := HE2.out rfl (by omega)
  clear HE0 HE1 HE2 HZX
  have sL4 : V.heap.size < V4.heap.size := cell_block q0
  have E4d : Err V4.drew c 0 0 := E4.grew (Grew.refl V4).drew
  go_wp2_with (fail)
  go_region_held2 (fun w' => w'.cell? ⟨w.heap.size, 2, none⟩ = some (.int .i64 A.b) ∧ w'.cell? ⟨w.heap.size + 1, 2, none⟩ = some (.int .i64 B.b) ∧ w'.cell? ⟨V.heap.size, 1, none⟩ = some (.int .i64 q)) (go_keep)
    (first
      | (go_at_call 15; go_fit (DA.out _ E4d); rintro e V5 ⟨rfl, E5, U5⟩; have s5 := U5.size; (try (simp at s5)); have k5a := U5.cells (b := w.heap.size) (by first | omega | (simp; omega)) (by omega); have k5b := U5.cells (b := w.heap.size + 1) (by first | omega | (simp; omega)) (by omega); have k5c := U5.cells (b := V.heap.size) (by first | omega | (simp; omega)) (by omega))
      | (go_at_call 33; go_fit (DM.out _ E5); rintro e V6 ⟨⟨vv, rfl, hv⟩, E6, U6⟩; have s6 := U6.size; (try (simp at s6)); have k6a := U6.cells (b := w.heap.size) (by first | omega | (simp; omega)) (by omega); have k6b := U6.cells (b := w.heap.size + 1) (by first | omega | (simp; omega)) (by omega); have k6c := U6.cells (b := V.heap.size) (by first | omega | (simp; omega)) (by omega))
      | (go_at_call 16; go_fit (DS.out _ _ hv E6); rintro e V7 ⟨rfl, E7, U7⟩; have s7 := U7.size; (try (simp at s7)); have k7a := U7.cells (b := w.heap.size) (by first | omega | (simp; omega)) (by omega); have k7b := U7.cells (b := w.heap.size + 1) (by first | omega | (simp; omega)) (by omega); have k7c := U7.cells (b := V.heap.size) (by first | omega | (simp; omega)) (by omega)))
  have P7 : Hid (Past c w V7) := (((P4.out.trans (Grew.refl V4).drew.past).trans U5).trans U6).trans U7
  have F7 : Fm V7 w.heap.size A B := (((F4.out.past (Grew.refl V4).drew.past (c := c) hc).past U5 hc).past U6 hc).past U7 hc
  have A7 : At V7 V.heap.size p q := ((((show At V4 V.heap.size p q from ⟨q0, q1⟩).past (Grew.refl V4).drew.past (c := c) (by omega)).past U5 (by omega)).past U6 (by omega)).past U7 (by omega)
  clear a0 a1 a2 a3 a4 a5 a6 a7 b0 b1 b2 b3 b4 b5 b6 b7 r0 r1 r2 z0 z1 z2 q0 q1 k5a k5b k5c k6a k6b k6c k7a k7b k7c s5 s6 s7 E4 E4d E5 E6 U5 U6 U7 DA DM DS F4 P4 hv
  obtain ⟨⟨a0, a1, a2, a3, a4, a5, a6, a7⟩, ⟨b0, b1, b2, b3, b4, b5, b6, b7⟩, ⟨r0, r1, r2⟩, zz⟩ := F7
  have z0 := zz 0 none
  have z1 := zz 1 none
  have z2 := zz 2 none
  clear zz
  clear a0 a1 a2 a3 a4 a5 a6 a7 b0 b1 b2 b3 b4 b5 b6 b7
  obtain ⟨q0, q1⟩ := A7
  by_cases hY : Y ≤ 0
  · have eT : ifH j (lessH X Y p q, 0) = ((⟨0, 0, 0⟩, false), j) := by
      by_cases hj : j = 0
      · rw [ifH_ok hj, hj]
        unfold lessH
        rw [if_pos (by omega)]
        unfold contactH
        rw [if_pos (by omega)]
      · exact ifH_no hj _
    have ET : Hid (_ = _) := HT.out.trans eT
    clear eT HZY HT
    go_wp2
    have hf := past_hit P7.out j E7 hc (.int .i64 0) (.int .i64 0) (.int .i64 0)
    simp [bodyPost, results, Tryz.results17, go_sem, r0, r1, r2]
    rw [ET.out]
    exact ⟨rfl, hf⟩
  obtain rfl : j = 0 := HZY.out (by omega)
  have l7 : V.heap.size < V7.heap.size := cell_block q0
  have m7 : w.heap.size + 1 + 1 < V7.heap.size := cell_block r0
  have HS : Hid (T = (lessH X Y p q, 0)) := HT.out.trans (ifH_ok rfl _)
  clear HT HZY
  by_cases hlt : Y < X
  · have e1 : lessH X Y p q = (⟨0, towI q, Y⟩, true) := by unfold lessH; rw [if_pos hlt]; exact if_neg (by omega)
    rw [e1] at HS
    clear e1
    by_cases hq : q < 0
    · rw [show towI q = -4294967296 from if_pos hq] at HS
      by_cases hp : p < 0
      · go_wp2
        simp [bodyPost, results, Tryz.results17, go_sem, r0, r1, r2, m7]
        rw [HS.out]
        have hf := past_hit P7.out 0 E7 hc (.int .i64 0) (.int .i64 (-4294967296)) (.int .i64 Y)
        exact ⟨rfl, hf.1.grew ((Grew.refl _).alloc _ _), hf.2.trans ((Grew.refl _).alloc _ _).past⟩
      · go_wp2
        simp [bodyPost, results, Tryz.results17, go_sem, r0, r1, r2, m7]
        rw [HS.out]
        have hf := past_hit P7.out 0 E7 hc (.int .i64 0) (.int .i64 (-4294967296)) (.int .i64 Y)
        exact ⟨rfl, hf.1.grew ((Grew.refl _).alloc _ _), hf.2.trans ((Grew.refl _).alloc _ _).past⟩
    · rw [show towI q = 4294967296 from if_neg hq] at HS
      by_cases hp : p < 0
      · go_wp2
        simp [bodyPost, results, Tryz.results17, go_sem, r0, r1, r2, m7]
        rw [HS.out]
        have hf := past_hit P7.out 0 E7 hc (.int .i64 0) (.int .i64 4294967296) (.int .i64 Y)
        exact ⟨rfl, hf.1.grew ((Grew.refl _).alloc _ _), hf.2.trans ((Grew.refl _).alloc _ _).past⟩
      · go_wp2
        simp [bodyPost, results, Tryz.results17, go_sem, r0, r1, r2, m7]
        rw [HS.out]
        have hf := past_hit P7.out 0 E7 hc (.int .i64 0) (.int .i64 4294967296) (.int .i64 Y)
        exact ⟨rfl, hf.1.grew ((Grew.refl _).alloc _ _), hf.2.trans ((Grew.refl _).alloc _ _).past⟩
  · have e1 : lessH X Y p q = (⟨towI p, 0, X⟩, true) := by unfold lessH; rw [if_neg hlt]; exact if_neg (by omega)
    rw [e1] at HS
    clear e1
    by_cases hp : p < 0
    · rw [show towI p = -4294967296 from if_pos hp] at HS
      go_wp2
      simp [bodyPost, results, Tryz.results17, go_sem, r0, r1, r2, m7]
      rw [HS.out]
      have hf := past_hit P7.out 0 E7 hc (.int .i64 (-4294967296)) (.int .i64 0) (.int .i64 X)
      exact ⟨rfl, hf.1.grew ((Grew.refl _).alloc _ _), hf.2.trans ((Grew.refl _).alloc _ _).past⟩
    · rw [show towI p = 4294967296 from if_neg hp] at HS
      go_wp2
      simp [bodyPost, results, Tryz.results17, go_sem, r0, r1, r2, m7]
      rw [HS.out]
      have hf := past_hit P7.out 0 E7 hc (.int .i64 4294967296) (.int .i64 0) (.int .i64 X)
      exact ⟨rfl, hf.1.grew ((Grew.refl _).alloc _ _), hf.2.trans ((Grew.refl _).alloc _ _).past⟩
end Go.Proofs.YtcoooehcgbohgaaGreat
