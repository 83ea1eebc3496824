/-
  What package crown's Pick and Slot do, and the document's own Pick.
-/
import Derived.Test.YtehlbcjfbofnnaaYGet
namespace Go.Proofs.Ytehlbcjfbofnnaa
open Go Go.RowKit

theorem pick_lt {A B : List UInt8} (h : (getL A).g < (getL B).g) : pickC A B = getL B ∧ pickI A B = 1 ∧ pickO A B = true := by
  refine ⟨if_pos h, if_pos h, ?_⟩
  have h1 := (get_gen A).1
  cases hb : isC B with
  | true => unfold pickO; rw [hb]; simp
  | false => have := (get_gen B).2.2 hb; omega
theorem pick_ge {A B : List UInt8} (h : ¬ (getL A).g < (getL B).g) : pickC A B = getL A ∧ pickI A B = 0 ∧ pickO A B = isC A := by
  refine ⟨if_neg h, if_neg h, ?_⟩
  unfold pickO
  cases ha : isC A with
  | true => rfl
  | false =>
    cases hb : isC B with
    | false => rfl
    | true =>
      have := (get_gen A).2.2 ha
      have := (get_gen B).2.1 hb
      omega
set_option maxHeartbeats 4000000 in
theorem pick_any (s t : ByteArray) (w : World) : Calls Try.prog 14 #[.string s, .string t] w fun e w' => e = .returned (.tuple #[(pickC s.data.toList t.data.toList).val, .int .i64 (pickI s.data.toList t.data.toList), .bool (pickO s.data.toList t.data.toList)]) ∧ Below w.heap.size w w' := by
  have HA : Hid (∀ W, _) := fun W => get_any s W
  have HB : Hid (∀ W, _) := fun W => get_any t W
  have P1 : Hid _ := @pick_lt s.data.toList t.data.toList
  have P2 : Hid _ := @pick_ge s.data.toList t.data.toList
  have QA : Hid _ := get_gen s.data.toList
  have QB : Hid _ := get_gen t.data.toList
  have RA : Hid (isC s.data.toList = false → getL s.data.toList = noC) := get_no
  generalize pickC s.data.toList t.data.toList = pc at *
  generalize pickI s.data.toList t.data.toList = pi at *
  generalize pickO s.data.toList t.data.toList = po at *
  generalize getL s.data.toList = X at *
  generalize getL t.data.toList = Y at *
  generalize isC s.data.toList = i at *
  generalize isC t.data.toList = j at *
  obtain ⟨g, r, p⟩ := X
  obtain ⟨g', r', p'⟩ := Y
  unfold Cr.val at HA HB
  dsimp only at HA HB
  go_enter Try.func14, Try.ntmps14
  by_cases hlt : g < g'
  · obtain ⟨e1, e2, e3⟩ := P1.out hlt
    rw [e1, e2, e3]
    clear e1 e2 e3 P1 P2 QA QB RA
    unfold Cr.val
    dsimp only
    go_wp2_with (first
      | (go_at_call 12; go_fit (HA.out _); rintro e W1 ⟨rfl, K1⟩; have D1 := (cat_new w noC _).below K1; have Z1 := fun o => below_frozen K1 (by simp) (frozen_new w _ _ o); have B1 := (((Grew.refl w).alloc _ _).below).trans (K1.mono (by simp)); have l1 : w.heap.size < W1.heap.size := Nat.lt_of_lt_of_le (by simp) K1.size; clear K1)
      | (go_at_call 12; go_fit (HB.out _); rintro e W2 ⟨rfl, K2⟩; have C2 := (cat_new W1 ⟨g, r, p⟩ _).below K2; have D2 := (D1.grew ((Grew.refl W1).alloc _ _)).below K2; have Z2 := fun o => below_frozen K2 (p := ⟨w.heap.size, o, none⟩) (by simp; omega) (((Grew.refl W1).alloc _ _).frozen (Z1 o)); have B2 := (B1.alloc (Nat.le_of_lt l1) _).trans (K2.mono (by simp; omega)); have l2 : W1.heap.size < W2.heap.size := Nat.lt_of_lt_of_le (by simp) K2.size; have l3 : w.heap.size < W2.heap.size := Nat.lt_trans l1 l2; have x0 := C2.g; have x1 := C2.r; have x2 := C2.p; have y0 := D2.g; have y1 := D2.r; have y2 := D2.p; have v0 := Z2 0; have v1 := Z2 1; have v2 := Z2 2; dsimp only [noC] at x0 x1 x2 y0 y1 y2; clear K2 C2 D2 Z2 Z1)
      | fail)
    refine bodyPost_ret (v := .tuple #[.agg #[.int .i64 g', .int .i64 r', .int .i64 p'], .int .i64 1, .bool true]) (by simp [results, Try.results14, go_sem, y0, y1, y2, l3]) rfl ⟨rfl, ?_⟩
    exact (((B2.setCell (p := ⟨w.heap.size, 0, none⟩) (Nat.le_refl _) _).setCell (p := ⟨w.heap.size, 1, none⟩) (Nat.le_refl _) _).setCell (p := ⟨w.heap.size, 2, none⟩) (Nat.le_refl _) _).alloc (by simp [World.setCell]; omega) _
  · obtain ⟨e1, e2, e3⟩ := P2.out hlt
    rw [e1, e2, e3]
    clear e1 e2 e3 P1 P2 QA QB RA
    unfold Cr.val
    dsimp only
    go_wp2_with (first
      | (go_at_call 12; go_fit (HA.out _); rintro e W1 ⟨rfl, K1⟩; have D1 := (cat_new w noC _).below K1; have Z1 := fun o => below_frozen K1 (by simp) (frozen_new w _ _ o); have B1 := (((Grew.refl w).alloc _ _).below).trans (K1.mono (by simp)); have l1 : w.heap.size < W1.heap.size := Nat.lt_of_lt_of_le (by simp) K1.size; clear K1)
      | (go_at_call 12; go_fit (HB.out _); rintro e W2 ⟨rfl, K2⟩; have C2 := (cat_new W1 ⟨g, r, p⟩ _).below K2; have D2 := (D1.grew ((Grew.refl W1).alloc _ _)).below K2; have Z2 := fun o => below_frozen K2 (p := ⟨w.heap.size, o, none⟩) (by simp; omega) (((Grew.refl W1).alloc _ _).frozen (Z1 o)); have B2 := (B1.alloc (Nat.le_of_lt l1) _).trans (K2.mono (by simp; omega)); have l2 : W1.heap.size < W2.heap.size := Nat.lt_of_lt_of_le (by simp) K2.size; have l3 : w.heap.size < W2.heap.size := Nat.lt_trans l1 l2; have x0 := C2.g; have x1 := C2.r; have x2 := C2.p; have y0 := D2.g; have y1 := D2.r; have y2 := D2.p; have v0 := Z2 0; have v1 := Z2 1; have v2 := Z2 2; dsimp only [noC] at x0 x1 x2 y0 y1 y2; clear K2 C2 D2 Z2 Z1)
      | fail)
    refine bodyPost_ret (v := .tuple #[.agg #[.int .i64 g, .int .i64 r, .int .i64 p], .int .i64 0, .bool i]) (by simp [results, Try.results14, go_sem, y0, y1, y2, l3]) rfl ⟨rfl, ?_⟩
    exact (((B2.setCell (p := ⟨w.heap.size, 0, none⟩) (Nat.le_refl _) _).setCell (p := ⟨w.heap.size, 1, none⟩) (Nat.le_refl _) _).setCell (p := ⟨w.heap.size, 2, none⟩) (Nat.le_refl _) _).alloc (by simp [World.setCell]; omega) _
set_option maxHeartbeats 4000000 in
theorem refpick_any (s t : ByteArray) (w : World) : Calls Try.prog 15 #[.string s, .string t] w fun e w' => e = .returned (.tuple #[(pickC s.data.toList t.data.toList).val, .int .i64 (pickI s.data.toList t.data.toList), .bool (pickO s.data.toList t.data.toList)]) ∧ Below w.heap.size w w' := by
  have HA : Hid (∀ W, _) := fun W => refget_any s W
  have HB : Hid (∀ W, _) := fun W => refget_any t W
  have P1 : Hid _ := @pick_lt s.data.toList t.data.toList
  have P2 : Hid _ := @pick_ge s.data.toList t.data.toList
  have QA : Hid _ := get_gen s.data.toList
  have QB : Hid _ := get_gen t.data.toList
  have RA : Hid (isC s.data.toList = false → getL s.data.toList = noC) := get_no
  generalize pickC s.data.toList t.data.toList = pc at *
  generalize pickI s.data.toList t.data.toList = pi at *
  generalize pickO s.data.toList t.data.toList = po at *
  generalize getL s.data.toList = X at *
  generalize getL t.data.toList = Y at *
  generalize isC s.data.toList = i at *
  generalize isC t.data.toList = j at *
  obtain ⟨g, r, p⟩ := X
  obtain ⟨g', r', p'⟩ := Y
  unfold Cr.val at HA HB
  dsimp only at HA HB
  go_enter Try.func15, Try.ntmps15
  cases i with
  | false =>
    have hg := QA.out.2.2 rfl
    have hx := RA.out rfl
    cases j with
    | false =>
      have hg' := QB.out.2.2 rfl
      dsimp only at hg hg'
      have hlt : ¬ g < g' := by omega
      obtain ⟨e1, e2, e3⟩ := P2.out hlt
      rw [e1, e2, e3]
      clear e1 e2 e3 P1 P2 QA QB RA
      unfold Cr.val
      dsimp only
      clear hg'
      obtain ⟨rfl, rfl, rfl⟩ : g = 0 ∧ r = 0 ∧ p = 0 := by simpa [noC] using hx
      clear hg hx
      go_wp2_with (first
        | (go_at_call 13; go_fit (HA.out _); rintro e W1 ⟨rfl, K1⟩; have D1 := (cat_new w noC _).below K1; have Z1 := fun o => below_frozen K1 (by simp) (frozen_new w _ _ o); have B1 := (((Grew.refl w).alloc _ _).below).trans (K1.mono (by simp)); have l1 : w.heap.size < W1.heap.size := Nat.lt_of_lt_of_le (by simp) K1.size; clear K1)
        | (go_at_call 13; go_fit (HB.out _); rintro e W2 ⟨rfl, K2⟩; have C2 := (cat_new W1 ⟨0, 0, 0⟩ _).below K2; have D2 := (D1.grew ((Grew.refl W1).alloc _ _)).below K2; have Z2 := fun o => below_frozen K2 (p := ⟨w.heap.size, o, none⟩) (by simp; omega) (((Grew.refl W1).alloc _ _).frozen (Z1 o)); have B2 := (B1.alloc (Nat.le_of_lt l1) _).trans (K2.mono (by simp; omega)); have l2 : W1.heap.size < W2.heap.size := Nat.lt_of_lt_of_le (by simp) K2.size; have l3 : w.heap.size < W2.heap.size := Nat.lt_trans l1 l2; have x0 := C2.g; have x1 := C2.r; have x2 := C2.p; have y0 := D2.g; have y1 := D2.r; have y2 := D2.p; have v0 := Z2 0; have v1 := Z2 1; have v2 := Z2 2; dsimp only [noC] at x0 x1 x2 y0 y1 y2; clear K2 C2 D2 Z2 Z1)
        | fail)
      refine bodyPost_ret (v := .tuple #[.agg #[.int .i64 0, .int .i64 0, .int .i64 0], .int .i64 0, .bool false]) (by simp [results, Try.results15, go_sem, y0, y1, y2, l3]) rfl ⟨rfl, ?_⟩
      exact (((B2.setCell (p := ⟨w.heap.size, 0, none⟩) (Nat.le_refl _) _).setCell (p := ⟨w.heap.size, 1, none⟩) (Nat.le_refl _) _).setCell (p := ⟨w.heap.size, 2, none⟩) (Nat.le_refl _) _).alloc (by simp [World.setCell]; omega) _
    | true =>
      have hg' := QB.out.2.1 rfl
      dsimp only at hg hg'
      have hlt : g < g' := by omega
      obtain ⟨e1, e2, e3⟩ := P1.out hlt
      rw [e1, e2, e3]
      clear e1 e2 e3 P1 P2 QA QB RA
      unfold Cr.val
      dsimp only
      clear hg hg' hx
      go_wp2_with (first
        | (go_at_call 13; go_fit (HA.out _); rintro e W1 ⟨rfl, K1⟩; have D1 := (cat_new w noC _).below K1; have Z1 := fun o => below_frozen K1 (by simp) (frozen_new w _ _ o); have B1 := (((Grew.refl w).alloc _ _).below).trans (K1.mono (by simp)); have l1 : w.heap.size < W1.heap.size := Nat.lt_of_lt_of_le (by simp) K1.size; clear K1)
        | (go_at_call 13; go_fit (HB.out _); rintro e W2 ⟨rfl, K2⟩; have C2 := (cat_new W1 ⟨g, r, p⟩ _).below K2; have D2 := (D1.grew ((Grew.refl W1).alloc _ _)).below K2; have Z2 := fun o => below_frozen K2 (p := ⟨w.heap.size, o, none⟩) (by simp; omega) (((Grew.refl W1).alloc _ _).frozen (Z1 o)); have B2 := (B1.alloc (Nat.le_of_lt l1) _).trans (K2.mono (by simp; omega)); have l2 : W1.heap.size < W2.heap.size := Nat.lt_of_lt_of_le (by simp) K2.size; have l3 : w.heap.size < W2.heap.size := Nat.lt_trans l1 l2; have x0 := C2.g; have x1 := C2.r; have x2 := C2.p; have y0 := D2.g; have y1 := D2.r; have y2 := D2.p; have v0 := Z2 0; have v1 := Z2 1; have v2 := Z2 2; dsimp only [noC] at x0 x1 x2 y0 y1 y2; clear K2 C2 D2 Z2 Z1)
        | fail)
      refine bodyPost_ret (v := .tuple #[.agg #[.int .i64 g', .int .i64 r', .int .i64 p'], .int .i64 1, .bool true]) (by simp [results, Try.results15, go_sem, y0, y1, y2, l3]) rfl ⟨rfl, ?_⟩
      exact (((B2.setCell (p := ⟨w.heap.size, 0, none⟩) (Nat.le_refl _) _).setCell (p := ⟨w.heap.size, 1, none⟩) (Nat.le_refl _) _).setCell (p := ⟨w.heap.size, 2, none⟩) (Nat.le_refl _) _).alloc (by simp [World.setCell]; omega) _
  | true =>
    cases j with
    | false =>
      have hg := QA.out.2.1 rfl
      have hg' := QB.out.2.2 rfl
      dsimp only at hg hg'
      have hlt : ¬ g < g' := by omega
      obtain ⟨e1, e2, e3⟩ := P2.out hlt
      rw [e1, e2, e3]
      clear e1 e2 e3 P1 P2 QA QB RA
      unfold Cr.val
      dsimp only
      clear hg hg'
      go_wp2_with (first
        | (go_at_call 13; go_fit (HA.out _); rintro e W1 ⟨rfl, K1⟩; have D1 := (cat_new w noC _).below K1; have Z1 := fun o => below_frozen K1 (by simp) (frozen_new w _ _ o); have B1 := (((Grew.refl w).alloc _ _).below).trans (K1.mono (by simp)); have l1 : w.heap.size < W1.heap.size := Nat.lt_of_lt_of_le (by simp) K1.size; clear K1)
        | (go_at_call 13; go_fit (HB.out _); rintro e W2 ⟨rfl, K2⟩; have C2 := (cat_new W1 ⟨g, r, p⟩ _).below K2; have D2 := (D1.grew ((Grew.refl W1).alloc _ _)).below K2; have Z2 := fun o => below_frozen K2 (p := ⟨w.heap.size, o, none⟩) (by simp; omega) (((Grew.refl W1).alloc _ _).frozen (Z1 o)); have B2 := (B1.alloc (Nat.le_of_lt l1) _).trans (K2.mono (by simp; omega)); have l2 : W1.heap.size < W2.heap.size := Nat.lt_of_lt_of_le (by simp) K2.size; have l3 : w.heap.size < W2.heap.size := Nat.lt_trans l1 l2; have x0 := C2.g; have x1 := C2.r; have x2 := C2.p; have y0 := D2.g; have y1 := D2.r; have y2 := D2.p; have v0 := Z2 0; have v1 := Z2 1; have v2 := Z2 2; dsimp only [noC] at x0 x1 x2 y0 y1 y2; clear K2 C2 D2 Z2 Z1)
        | fail)
      refine bodyPost_ret (v := .tuple #[.agg #[.int .i64 g, .int .i64 r, .int .i64 p], .int .i64 0, .bool true]) (by simp [results, Try.results15, go_sem, y0, y1, y2, l3]) rfl ⟨rfl, ?_⟩
      exact (((B2.setCell (p := ⟨w.heap.size, 0, none⟩) (Nat.le_refl _) _).setCell (p := ⟨w.heap.size, 1, none⟩) (Nat.le_refl _) _).setCell (p := ⟨w.heap.size, 2, none⟩) (Nat.le_refl _) _).alloc (by simp [World.setCell]; omega) _
    | true =>
      by_cases hlt : g < g'
      · skip
        obtain ⟨e1, e2, e3⟩ := P1.out hlt
        rw [e1, e2, e3]
        clear e1 e2 e3 P1 P2 QA QB RA
        unfold Cr.val
        dsimp only
        go_wp2_with (first
          | (go_at_call 13; go_fit (HA.out _); rintro e W1 ⟨rfl, K1⟩; have D1 := (cat_new w noC _).below K1; have Z1 := fun o => below_frozen K1 (by simp) (frozen_new w _ _ o); have B1 := (((Grew.refl w).alloc _ _).below).trans (K1.mono (by simp)); have l1 : w.heap.size < W1.heap.size := Nat.lt_of_lt_of_le (by simp) K1.size; clear K1)
          | (go_at_call 13; go_fit (HB.out _); rintro e W2 ⟨rfl, K2⟩; have C2 := (cat_new W1 ⟨g, r, p⟩ _).below K2; have D2 := (D1.grew ((Grew.refl W1).alloc _ _)).below K2; have Z2 := fun o => below_frozen K2 (p := ⟨w.heap.size, o, none⟩) (by simp; omega) (((Grew.refl W1).alloc _ _).frozen (Z1 o)); have B2 := (B1.alloc (Nat.le_of_lt l1) _).trans (K2.mono (by simp; omega)); have l2 : W1.heap.size < W2.heap.size := Nat.lt_of_lt_of_le (by simp) K2.size; have l3 : w.heap.size < W2.heap.size := Nat.lt_trans l1 l2; have x0 := C2.g; have x1 := C2.r; have x2 := C2.p; have y0 := D2.g; have y1 := D2.r; have y2 := D2.p; have v0 := Z2 0; have v1 := Z2 1; have v2 := Z2 2; dsimp only [noC] at x0 x1 x2 y0 y1 y2; clear K2 C2 D2 Z2 Z1)
          | fail)
        refine bodyPost_ret (v := .tuple #[.agg #[.int .i64 g', .int .i64 r', .int .i64 p'], .int .i64 1, .bool true]) (by simp [results, Try.results15, go_sem, y0, y1, y2, l3]) rfl ⟨rfl, ?_⟩
        exact (((B2.setCell (p := ⟨w.heap.size, 0, none⟩) (Nat.le_refl _) _).setCell (p := ⟨w.heap.size, 1, none⟩) (Nat.le_refl _) _).setCell (p := ⟨w.heap.size, 2, none⟩) (Nat.le_refl _) _).alloc (by simp [World.setCell]; omega) _
      · skip
        obtain ⟨e1, e2, e3⟩ := P2.out hlt
        rw [e1, e2, e3]
        clear e1 e2 e3 P1 P2 QA QB RA
        unfold Cr.val
        dsimp only
        go_wp2_with (first
          | (go_at_call 13; go_fit (HA.out _); rintro e W1 ⟨rfl, K1⟩; have D1 := (cat_new w noC _).below K1; have Z1 := fun o => below_frozen K1 (by simp) (frozen_new w _ _ o); have B1 := (((Grew.refl w).alloc _ _).below).trans (K1.mono (by simp)); have l1 : w.heap.size < W1.heap.size := Nat.lt_of_lt_of_le (by simp) K1.size; clear K1)
          | (go_at_call 13; go_fit (HB.out _); rintro e W2 ⟨rfl, K2⟩; have C2 := (cat_new W1 ⟨g, r, p⟩ _).below K2; have D2 := (D1.grew ((Grew.refl W1).alloc _ _)).below K2; have Z2 := fun o => below_frozen K2 (p := ⟨w.heap.size, o, none⟩) (by simp; omega) (((Grew.refl W1).alloc _ _).frozen (Z1 o)); have B2 := (B1.alloc (Nat.le_of_lt l1) _).trans (K2.mono (by simp; omega)); have l2 : W1.heap.size < W2.heap.size := Nat.lt_of_lt_of_le (by simp) K2.size; have l3 : w.heap.size < W2.heap.size := Nat.lt_trans l1 l2; have x0 := C2.g; have x1 := C2.r; have x2 := C2.p; have y0 := D2.g; have y1 := D2.r; have y2 := D2.p; have v0 := Z2 0; have v1 := Z2 1; have v2 := Z2 2; dsimp only [noC] at x0 x1 x2 y0 y1 y2; clear K2 C2 D2 Z2 Z1)
          | fail)
        refine bodyPost_ret (v := .tuple #[.agg #[.int .i64 g, .int .i64 r, .int .i64 p], .int .i64 0, .bool true]) (by simp [results, Try.results15, go_sem, y0, y1, y2, l3]) rfl ⟨rfl, ?_⟩
        exact (((B2.setCell (p := ⟨w.heap.size, 0, none⟩) (Nat.le_refl _) _).setCell (p := ⟨w.heap.size, 1, none⟩) (Nat.le_refl _) _).setCell (p := ⟨w.heap.size, 2, none⟩) (Nat.le_refl _) _).alloc (by simp [World.setCell]; omega) _
/-- The last bit. -/
theorem last_bit (n : Int) : bits .and .i64 n 1 = n % 2 := by
  have e1 : (BitVec.ofInt 64 n).toNat = (n % ((2 ^ 64 : Nat) : Int)).toNat := BitVec.toNat_ofInt ..
  have e2 : (BitVec.ofInt 64 1).toNat = 2 ^ 1 - 1 := by rw [BitVec.toNat_ofInt]; rfl
  have e : IntKind.i64.wrap ((BitVec.ofInt 64 n &&& BitVec.ofInt 64 1).toNat : Int) = n % 2 := by
    rw [BitVec.toNat_and, e1, e2, Nat.and_two_pow_sub_one_eq_mod, IntKind.wrap_i64]
    omega
  exact e
theorem slot_any (n : Int) (w : World) : Calls Try.prog 16 #[.int .i64 n] w fun e w' => e = .returned (.int .i64 (n % 2)) ∧ w' = w := by
  have h := last_bit n
  go_enter Try.func16, Try.ntmps16
  go_wp2
  go_ret
  exact ⟨rfl, rfl⟩
end Go.Proofs.Ytehlbcjfbofnnaa
