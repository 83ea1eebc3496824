/-
  What package crown's right and Put do, strings.Repeat at zeros, and the document's own CrownPut.
-/
import Derived.Test.YtehlbcjfbofnnaaYCalls
import Derived.Test.YtehlbcjfbofnnaaYLay
import Derived.Test.YtehlbcjfbofnnaaXQuiet
import Derived.Deep.DeepFit
namespace Go.Proofs.Ytehlbcjfbofnnaa
open Go Go.RowKit Go.Shelf

theorem rep_extra : Builder.Extra Try.prog Try.laysRepeat_ren := {
  sizeBuilder := by kernel_rfl
  liesBuilder := by kernel_rfl
  t5 := Try.laysRepeat.t5
  a5 := Try.laysRepeat.a5
  z5 := Try.laysRepeat.z5
  v5 := Try.laysRepeat.v5
  infoByte := by kernel_rfl
  cellsByte := by kernel_rfl
  sizeByte := by kernel_rfl
  neB5 := by decide }
theorem rep_num : Try.laysRepeat_ren.f 105 = 20 := by kernel_rfl
/-- Zeros. -/
theorem repeat_any (k : Nat) (hk : k ≤ 1000) (w : World) : Calls Try.prog 20 #[.string ⟨#[0]⟩, .int .i64 k] w fun e w' => e = .returned (.string (zerosB k)) ∧ Below w.heap.size w w' := by
  have h := Any.strings_Repeat Try.laysRepeat rep_extra ⟨#[0]⟩ k w (by omega) (by show 1 * k ≤ _; omega)
  rw [rep_num] at h
  refine h.mono fun e w' ⟨he, hw⟩ => ⟨?_, hw⟩
  rw [he]
  have e : Lib.repeatL (ByteArray.mk #[0]).data.toList k = List.replicate k 0 := by
    have := Lib.repeatL_replicate 0 1 k
    simpa using this
  rw [e]
  rfl

/-- A crown as a value. -/
def Cr.val (c : Cr) : Value := .agg #[.int .i64 c.g, .int .i64 c.r, .int .i64 c.p]
def Cr.ok (c : Cr) : Prop := inF c.g ∧ inF c.r ∧ inF c.p
/-- A crown that lies at block b. -/
structure CAt (w : World) (b : Nat) (c : Cr) : Prop where
  g : w.cell? ⟨b, 0, none⟩ = some (.int .i64 c.g)
  r : w.cell? ⟨b, 1, none⟩ = some (.int .i64 c.r)
  p : w.cell? ⟨b, 2, none⟩ = some (.int .i64 c.p)
theorem CAt.keep {w w' : World} {b : Nat} {c : Cr} (h : CAt w b c) (k : ∀ o v, w.cell? ⟨b, o, none⟩ = some v → w'.cell? ⟨b, o, none⟩ = some v) : CAt w' b c := ⟨k _ _ h.g, k _ _ h.r, k _ _ h.p⟩
theorem CAt.grew {w w' : World} {b : Nat} {c : Cr} (h : CAt w b c) (g : Grew w w') : CAt w' b c := h.keep fun _ _ e => g.cell e
theorem below_cell {w w' : World} (h : Below w.heap.size w w') {p : Addr} {v : Value} (hc : w.cell? p = some v) : w'.cell? p = some v := by
  rw [cell_of_heap (h.block _ (cell_block hc)), hc]
theorem CAt.below {w w' : World} {b : Nat} {c : Cr} (h : CAt w b c) (g : Below w.heap.size w w') : CAt w' b c := h.keep fun _ _ e => below_cell g e
theorem cat_new (w : World) (c : Cr) (t : TypeId) : CAt (w.alloc (.cells #[.int .i64 c.g, .int .i64 c.r, .int .i64 c.p] t)) w.heap.size c := ⟨by simp [go_sem], by simp [go_sem], by simp [go_sem]⟩

theorem right_crown (c : Cr) (w : World) : Calls Try.prog 18 #[c.val] w fun e w' => e = .returned (.bool (okC c)) ∧ Grew w w' := by
  obtain ⟨g, r, p⟩ := c
  obtain ⟨k, hk⟩ : ∃ k, okC ⟨g, r, p⟩ = k := ⟨_, rfl⟩
  rw [hk]
  replace hk : Hid (okC ⟨g, r, p⟩ = k) := hk
  unfold Cr.val
  dsimp only
  go_enter Try.func18, Try.ntmps18
  go_wp2
  all_goals
    go_ret
    refine ⟨ret_bool ?_, (Grew.refl w).alloc _ _⟩
    rw [← hk.out]
    first
      | (symm; rw [okC_no]; dsimp only; omega)
      | (rw [Bool.eq_iff_iff, okC_iff]; simp; omega)
/-! ### Put -/
theorem put_apart (c : Cr) : putB c = bigB c.g.toNat 8 ++ bigB c.r.toNat 2 ++ bigB c.p.toNat 2 ++ zerosB 108 ++ bigB c.g.toNat 8 := by
  apply ByteArray.ext
  simp only [ByteArray.data_append, putB, bigB, zerosB, putL, List.append_toArray]
set_option maxHeartbeats 1000000 in
theorem put_any (c : Cr) (w : World) : Calls Try.prog 10 #[c.val] w fun e w' => e = .returned (.tuple #[.string (putV c), .bool (okC c)]) ∧ Below w.heap.size w w' := by
  obtain ⟨g, r, p⟩ := c
  cases hk : okC ⟨g, r, p⟩ with
  | false =>
    unfold Cr.val putV
    rw [hk]
    dsimp only
    have HK : Hid (∀ W, _) := fun W => right_crown ⟨g, r, p⟩ W
    rw [hk] at HK
    unfold Cr.val at HK
    dsimp only at HK
    go_enter Try.func10, Try.ntmps10
    go_wp2_with (first | (go_at_call 18; go_fit (HK.out _); rintro e w1 ⟨rfl, K⟩))
    go_ret2
    exact ⟨rfl, (((Grew.refl w).alloc _ _).trans K).below⟩
  | true =>
    have hk' := (okC_iff _).1 hk
    obtain ⟨G, hG⟩ : ∃ G, G = bigB g.toNat 8 := ⟨_, rfl⟩
    obtain ⟨R, hR⟩ : ∃ R, R = bigB r.toNat 2 := ⟨_, rfl⟩
    obtain ⟨S, hS⟩ : ∃ S, S = bigB p.toNat 2 := ⟨_, rfl⟩
    have lG : G.size = 8 := by rw [hG, bigB_size]
    have lR : R.size = 2 := by rw [hR, bigB_size]
    have lS : S.size = 2 := by rw [hS, bigB_size]
    have hp : Hid (putB ⟨g, r, p⟩ = G ++ R ++ S ++ zerosB 108 ++ G) := by rw [hG, hR, hS]; exact put_apart _
    dsimp only at hk'
    have HG : Hid (∀ W, Calls Try.prog 19 #[.int .i64 g, .int .i64 8] W fun e w' => e = .returned (.string G) ∧ Grew W w') := fun W => by
      have := big_any g.toNat 8 (by omega) W
      rw [show ((g.toNat : Nat) : Int) = g by omega, ← hG] at this
      exact this
    have HR : Hid (∀ W, Calls Try.prog 19 #[.int .i64 r, .int .i64 2] W fun e w' => e = .returned (.string R) ∧ Grew W w') := fun W => by
      have := big_any r.toNat 2 (by omega) W
      rw [show ((r.toNat : Nat) : Int) = r by omega, ← hR] at this
      exact this
    have HS : Hid (∀ W, Calls Try.prog 19 #[.int .i64 p, .int .i64 2] W fun e w' => e = .returned (.string S) ∧ Grew W w') := fun W => by
      have := big_any p.toNat 2 (by omega) W
      rw [show ((p.toNat : Nat) : Int) = p by omega, ← hS] at this
      exact this
    have z1 : ¬ 9223372036854775807 < G.size + R.size := by omega
    have z2 : ¬ 9223372036854775807 < (G ++ R).size + S.size := by rw [ByteArray.size_append]; omega
    obtain ⟨H, hH⟩ : ∃ H, H = G ++ R ++ S := ⟨_, rfl⟩
    have lH : H.size = 12 := by rw [hH, ByteArray.size_append, ByteArray.size_append]; omega
    have z3 : ¬ 9223372036854775807 < H.size + (zerosB 108).size := by rw [zerosB_size]; omega
    have z4 : ¬ 9223372036854775807 < (H ++ zerosB 108).size + G.size := by rw [ByteArray.size_append, zerosB_size]; omega
    rw [← hH] at hp
    replace hH : Hid (G ++ R ++ S = H) := hH.symm
    clear hG hR hS
    unfold Cr.val putV
    rw [hk]
    dsimp only
    rw [if_pos rfl, hp.out]
    have lZ := zerosB_size 108
    generalize hZ : zerosB 108 = Z at *
    have HK : Hid (∀ W, _) := fun W => right_crown ⟨g, r, p⟩ W
    rw [hk] at HK
    unfold Cr.val at HK
    dsimp only at HK
    have HZ : Hid (∀ W, Calls Try.prog 20 #[.string ⟨#[0]⟩, .int .i64 108] W fun e w' => e = .returned (.string Z) ∧ Below W.heap.size W w') := fun W => by rw [← hZ]; exact repeat_any 108 (by decide) W
    clear hZ
    go_enter Try.func10, Try.ntmps10
    go_upto_region 4 with (first
      | (go_at_call 18; go_fit (HK.out _); rintro e W1 ⟨rfl, K1⟩; have C1 := (cat_new w ⟨g, r, p⟩ _).grew K1; have c0 := C1.g; dsimp only at c0)
      | (go_at_call 19; go_fit (HG.out _); rintro e W2 ⟨rfl, K2⟩))
    have C2 := C1.grew K2
    have BB : Below w.heap.size w W2 := (((Grew.refl w).alloc _ _).trans (K1.trans K2)).below
    have BL := BB.size
    clear C1 K1 K2 c0
    generalize w.heap.size = b at C2 ⊢
    have qSpa : Hid (∀ w', Grew W2 w' → (w'.cell? ⟨b, 0, none⟩ = some (.int .i64 g) ∧ w'.cell? ⟨b, 1, none⟩ = some (.int .i64 r) ∧ w'.cell? ⟨b, 2, none⟩ = some (.int .i64 p))) := fun w' g => ⟨g.cell C2.g, g.cell C2.r, g.cell C2.p⟩
    refine kept_region W2 (by kernel_rfl) (by kernel_rfl) ?_
    refine kept_want ?vpa0 (by rfl) ?ypa0 ?rpa0
    case ypa0 => (intro w' hG; obtain ⟨q0, q1, q2⟩ := qSpa.out w' hG; clear hG; go_simp; try (with_reducible rfl))
    simp only [Act.put, List.setIfInBounds_toArray, List.set_cons_zero, List.set_cons_succ]
    refine kept_want ?vpa1 (by rfl) ?ypa1 ?rpa1
    case ypa1 => (intro w' hG; obtain ⟨q0, q1, q2⟩ := qSpa.out w' hG; clear hG; go_simp; try (with_reducible rfl))
    simp only [Act.put, List.setIfInBounds_toArray, List.set_cons_zero, List.set_cons_succ]
    refine kept_want ?vpa2 (by rfl) ?ypa2 ?rpa2
    case ypa2 => (intro w' hG; obtain ⟨q0, q1, q2⟩ := qSpa.out w' hG; clear hG; go_simp; try (with_reducible rfl))
    simp only [Act.put, List.setIfInBounds_toArray, List.set_cons_zero, List.set_cons_succ]
    refine kept_want ?vpa3 (by rfl) ?ypa3 ?rpa3
    case ypa3 => (intro w' hG; go_simp; refine (HR.out _).mono ?_; rintro e w'' ⟨rfl, U⟩; refine ⟨?_, hG.trans U⟩; with_reducible rfl)
    simp only [Act.put, List.setIfInBounds_toArray, List.set_cons_zero, List.set_cons_succ]
    refine kept_want ?vpa4 (by rfl) ?ypa4 ?rpa4
    case ypa4 => (intro w' hG; obtain ⟨q0, q1, q2⟩ := qSpa.out w' hG; clear hG; go_simp; try (with_reducible rfl))
    simp only [Act.put, List.setIfInBounds_toArray, List.set_cons_zero, List.set_cons_succ]
    refine kept_want ?vpa5 (by rfl) ?ypa5 ?rpa5
    case ypa5 => (intro w' hG; obtain ⟨q0, q1, q2⟩ := qSpa.out w' hG; clear hG; go_simp; try (with_reducible rfl))
    simp only [Act.put, List.setIfInBounds_toArray, List.set_cons_zero, List.set_cons_succ]
    refine kept_want ?vpa6 (by rfl) ?ypa6 ?rpa6
    case ypa6 => (intro w' hG; obtain ⟨q0, q1, q2⟩ := qSpa.out w' hG; clear hG; go_simp; try (with_reducible rfl))
    simp only [Act.put, List.setIfInBounds_toArray, List.set_cons_zero, List.set_cons_succ]
    refine kept_want ?vpa7 (by rfl) ?ypa7 ?rpa7
    case ypa7 => (intro w' hG; go_simp; refine (HS.out _).mono ?_; rintro e w'' ⟨rfl, U⟩; refine ⟨?_, hG.trans U⟩; with_reducible rfl)
    simp only [Act.put, List.setIfInBounds_toArray, List.set_cons_zero, List.set_cons_succ]
    refine kept_want ?vpa8 (by rfl) ?ypa8 ?rpa8
    case ypa8 => (intro w' hG; obtain ⟨q0, q1, q2⟩ := qSpa.out w' hG; clear hG; go_simp; try (with_reducible rfl))
    simp only [Act.put, List.setIfInBounds_toArray, List.set_cons_zero, List.set_cons_succ]
    refine kept_want ?vpa9 (by rfl) ?ypa9 ?rpa9
    case ypa9 => (intro w' hG; obtain ⟨q0, q1, q2⟩ := qSpa.out w' hG; clear hG; go_simp; try (with_reducible rfl))
    simp only [Act.put, List.setIfInBounds_toArray, List.set_cons_zero, List.set_cons_succ]
    refine kept_nil ?_
    intro W3 hW3
    clear qSpa
    rw [hH.out]
    go_wp2_with (first
      | (go_at_call 20; go_fit (HZ.out _); rintro e W4 ⟨rfl, K4⟩))
    go_ret2
    exact ⟨rfl, BB.trans ((hW3.below.trans (K4.mono hW3.size)).mono BL)⟩
set_option maxHeartbeats 1000000 in
theorem refput_any (c : Cr) (w : World) : Calls Try.prog 11 #[c.val] w fun e w' => e = .returned (.tuple #[.string (putV c), .bool (okC c)]) ∧ Grew w w' := by
  obtain ⟨g, r, p⟩ := c
  cases hk : okC ⟨g, r, p⟩ with
  | false =>
    unfold Cr.val putV
    rw [hk]
    dsimp only
    have hn := (okC_no _).1 hk
    clear hn
    replace hk : Hid (okC ⟨g, r, p⟩ = false) := hk
    go_enter Try.func11, Try.ntmps11
    go_wp2
    all_goals
      first
        | (go_ret2; exact ⟨rfl, (Grew.refl w).alloc _ _⟩)
        | (exfalso; have hn := (okC_no _).1 hk.out; dsimp only at hn; omega)
  | true =>
    have hk' := (okC_iff _).1 hk
    obtain ⟨G, hG⟩ : ∃ G, G = bigB g.toNat 8 := ⟨_, rfl⟩
    obtain ⟨R, hR⟩ : ∃ R, R = bigB r.toNat 2 := ⟨_, rfl⟩
    obtain ⟨S, hS⟩ : ∃ S, S = bigB p.toNat 2 := ⟨_, rfl⟩
    have lG : G.size = 8 := by rw [hG, bigB_size]
    have lR : R.size = 2 := by rw [hR, bigB_size]
    have lS : S.size = 2 := by rw [hS, bigB_size]
    have hp : Hid (putB ⟨g, r, p⟩ = G ++ R ++ S ++ zerosB 108 ++ G) := by rw [hG, hR, hS]; exact put_apart _
    dsimp only at hk'
    have HG : Hid (∀ W, Calls Try.prog 21 #[.int .i64 g, .int .i64 8] W fun e w' => e = .returned (.string G) ∧ Grew W w') := fun W => by
      have := refbig_any g.toNat 8 (by omega) (by omega) W
      rw [show ((g.toNat : Nat) : Int) = g by omega, ← hG] at this
      exact this
    have HR : Hid (∀ W, Calls Try.prog 21 #[.int .i64 r, .int .i64 2] W fun e w' => e = .returned (.string R) ∧ Grew W w') := fun W => by
      have := refbig_any r.toNat 2 (by omega) (by omega) W
      rw [show ((r.toNat : Nat) : Int) = r by omega, ← hR] at this
      exact this
    have HS : Hid (∀ W, Calls Try.prog 21 #[.int .i64 p, .int .i64 2] W fun e w' => e = .returned (.string S) ∧ Grew W w') := fun W => by
      have := refbig_any p.toNat 2 (by omega) (by omega) W
      rw [show ((p.toNat : Nat) : Int) = p by omega, ← hS] at this
      exact this
    have z1 : ¬ 9223372036854775807 < G.size + R.size := by omega
    have z2 : ¬ 9223372036854775807 < (G ++ R).size + S.size := by rw [ByteArray.size_append]; omega
    obtain ⟨H, hH⟩ : ∃ H, H = G ++ R ++ S := ⟨_, rfl⟩
    have lH : H.size = 12 := by rw [hH, ByteArray.size_append, ByteArray.size_append]; omega
    have z3 : ¬ 9223372036854775807 < H.size + (zerosB 108).size := by rw [zerosB_size]; omega
    have z4 : ¬ 9223372036854775807 < (H ++ zerosB 108).size + G.size := by rw [ByteArray.size_append, zerosB_size]; omega
    rw [← hH] at hp
    replace hH : Hid (G ++ R ++ S = H) := hH.symm
    clear hG hR hS
    unfold Cr.val putV
    rw [hk]
    dsimp only
    rw [if_pos rfl, hp.out]
    have lZ := zerosB_size 108
    generalize hZ : zerosB 108 = Z at *
    have n1 : ¬ g < 1 := by omega
    have n2 : ¬ 4611686018427387904 < g := by omega
    have n3 : ¬ p < 8 := by omega
    have n4 : ¬ 200 < p := by omega
    have n5 : ¬ r < 2 := by omega
    have n6 : ¬ p ≤ r := by omega
    clear hk' hk
    have HZ : Hid (∀ W, Calls Try.prog 17 #[.int .i64 108] W fun e w' => e = .returned (.string Z) ∧ Grew W w') := fun W => by rw [← hZ]; exact zeros_any W 108 (by decide) (by decide)
    clear hZ
    go_enter Try.func11, Try.ntmps11
    go_upto_region 3 with (fail)
    have C2 : CAt (w.alloc (.cells #[.int .i64 g, .int .i64 r, .int .i64 p] 28)) w.heap.size ⟨g, r, p⟩ := cat_new w ⟨g, r, p⟩ _
    have BB : Grew w (w.alloc (.cells #[.int .i64 g, .int .i64 r, .int .i64 p] 28)) := (Grew.refl w).alloc _ _
    generalize w.alloc (.cells #[.int .i64 g, .int .i64 r, .int .i64 p] 28) = W2 at C2 BB ⊢
    generalize w.heap.size = b at C2 ⊢
    have qSpb : Hid (∀ w', Grew W2 w' → (w'.cell? ⟨b, 0, none⟩ = some (.int .i64 g) ∧ w'.cell? ⟨b, 1, none⟩ = some (.int .i64 r) ∧ w'.cell? ⟨b, 2, none⟩ = some (.int .i64 p))) := fun w' g => ⟨g.cell C2.g, g.cell C2.r, g.cell C2.p⟩
    refine kept_region W2 (by kernel_rfl) (by kernel_rfl) ?_
    refine kept_want ?vpb0 (by rfl) ?ypb0 ?rpb0
    case ypb0 => (intro w' hG; obtain ⟨q0, q1, q2⟩ := qSpb.out w' hG; clear hG; go_simp; try (with_reducible rfl))
    simp only [Act.put, List.setIfInBounds_toArray, List.set_cons_zero, List.set_cons_succ]
    refine kept_want ?vpb1 (by rfl) ?ypb1 ?rpb1
    case ypb1 => (intro w' hG; obtain ⟨q0, q1, q2⟩ := qSpb.out w' hG; clear hG; go_simp; try (with_reducible rfl))
    simp only [Act.put, List.setIfInBounds_toArray, List.set_cons_zero, List.set_cons_succ]
    refine kept_want ?vpb2 (by rfl) ?ypb2 ?rpb2
    case ypb2 => (intro w' hG; go_simp; refine (HG.out _).mono ?_; rintro e w'' ⟨rfl, U⟩; refine ⟨?_, hG.trans U⟩; with_reducible rfl)
    simp only [Act.put, List.setIfInBounds_toArray, List.set_cons_zero, List.set_cons_succ]
    refine kept_want ?vpb3 (by rfl) ?ypb3 ?rpb3
    case ypb3 => (intro w' hG; obtain ⟨q0, q1, q2⟩ := qSpb.out w' hG; clear hG; go_simp; try (with_reducible rfl))
    simp only [Act.put, List.setIfInBounds_toArray, List.set_cons_zero, List.set_cons_succ]
    refine kept_want ?vpb4 (by rfl) ?ypb4 ?rpb4
    case ypb4 => (intro w' hG; obtain ⟨q0, q1, q2⟩ := qSpb.out w' hG; clear hG; go_simp; try (with_reducible rfl))
    simp only [Act.put, List.setIfInBounds_toArray, List.set_cons_zero, List.set_cons_succ]
    refine kept_want ?vpb5 (by rfl) ?ypb5 ?rpb5
    case ypb5 => (intro w' hG; go_simp; refine (HR.out _).mono ?_; rintro e w'' ⟨rfl, U⟩; refine ⟨?_, hG.trans U⟩; with_reducible rfl)
    simp only [Act.put, List.setIfInBounds_toArray, List.set_cons_zero, List.set_cons_succ]
    refine kept_want ?vpb6 (by rfl) ?ypb6 ?rpb6
    case ypb6 => (intro w' hG; obtain ⟨q0, q1, q2⟩ := qSpb.out w' hG; clear hG; go_simp; try (with_reducible rfl))
    simp only [Act.put, List.setIfInBounds_toArray, List.set_cons_zero, List.set_cons_succ]
    refine kept_want ?vpb7 (by rfl) ?ypb7 ?rpb7
    case ypb7 => (intro w' hG; obtain ⟨q0, q1, q2⟩ := qSpb.out w' hG; clear hG; go_simp; try (with_reducible rfl))
    simp only [Act.put, List.setIfInBounds_toArray, List.set_cons_zero, List.set_cons_succ]
    refine kept_want ?vpb8 (by rfl) ?ypb8 ?rpb8
    case ypb8 => (intro w' hG; obtain ⟨q0, q1, q2⟩ := qSpb.out w' hG; clear hG; go_simp; try (with_reducible rfl))
    simp only [Act.put, List.setIfInBounds_toArray, List.set_cons_zero, List.set_cons_succ]
    refine kept_want ?vpb9 (by rfl) ?ypb9 ?rpb9
    case ypb9 => (intro w' hG; go_simp; refine (HS.out _).mono ?_; rintro e w'' ⟨rfl, U⟩; refine ⟨?_, hG.trans U⟩; with_reducible rfl)
    simp only [Act.put, List.setIfInBounds_toArray, List.set_cons_zero, List.set_cons_succ]
    refine kept_want ?vpb10 (by rfl) ?ypb10 ?rpb10
    case ypb10 => (intro w' hG; obtain ⟨q0, q1, q2⟩ := qSpb.out w' hG; clear hG; go_simp; try (with_reducible rfl))
    simp only [Act.put, List.setIfInBounds_toArray, List.set_cons_zero, List.set_cons_succ]
    refine kept_want ?vpb11 (by rfl) ?ypb11 ?rpb11
    case ypb11 => (intro w' hG; obtain ⟨q0, q1, q2⟩ := qSpb.out w' hG; clear hG; go_simp; try (with_reducible rfl))
    simp only [Act.put, List.setIfInBounds_toArray, List.set_cons_zero, List.set_cons_succ]
    refine kept_nil ?_
    intro W3 hW3
    clear qSpb
    rw [hH.out]
    go_upto_region 4 with (fail)
    have C3 := C2.grew hW3
    have qSpc : Hid (∀ w', Grew W3 w' → (w'.cell? ⟨b, 0, none⟩ = some (.int .i64 g) ∧ w'.cell? ⟨b, 1, none⟩ = some (.int .i64 r) ∧ w'.cell? ⟨b, 2, none⟩ = some (.int .i64 p))) := fun w' g => ⟨g.cell C3.g, g.cell C3.r, g.cell C3.p⟩
    refine kept_region W3 (by kernel_rfl) (by kernel_rfl) ?_
    refine kept_want ?vpc0 (by rfl) ?ypc0 ?rpc0
    case ypc0 => (intro w' hG; obtain ⟨q0, q1, q2⟩ := qSpc.out w' hG; clear hG; go_simp; try (with_reducible rfl))
    simp only [Act.put, List.setIfInBounds_toArray, List.set_cons_zero, List.set_cons_succ]
    refine kept_want ?vpc1 (by rfl) ?ypc1 ?rpc1
    case ypc1 => (intro w' hG; obtain ⟨q0, q1, q2⟩ := qSpc.out w' hG; clear hG; go_simp; try (with_reducible rfl))
    simp only [Act.put, List.setIfInBounds_toArray, List.set_cons_zero, List.set_cons_succ]
    refine kept_want ?vpc2 (by rfl) ?ypc2 ?rpc2
    case ypc2 => (intro w' hG; obtain ⟨q0, q1, q2⟩ := qSpc.out w' hG; clear hG; go_simp; try (with_reducible rfl))
    simp only [Act.put, List.setIfInBounds_toArray, List.set_cons_zero, List.set_cons_succ]
    refine kept_want ?vpc3 (by rfl) ?ypc3 ?rpc3
    case ypc3 => (intro w' hG; obtain ⟨q0, q1, q2⟩ := qSpc.out w' hG; clear hG; go_simp; try (with_reducible rfl))
    simp only [Act.put, List.setIfInBounds_toArray, List.set_cons_zero, List.set_cons_succ]
    refine kept_want ?vpc4 (by rfl) ?ypc4 ?rpc4
    case ypc4 => (intro w' hG; go_simp; refine (HZ.out _).mono ?_; rintro e w'' ⟨rfl, U⟩; refine ⟨?_, hG.trans U⟩; with_reducible rfl)
    simp only [Act.put, List.setIfInBounds_toArray, List.set_cons_zero, List.set_cons_succ]
    refine kept_want ?vpc5 (by rfl) ?ypc5 ?rpc5
    case ypc5 => (intro w' hG; obtain ⟨q0, q1, q2⟩ := qSpc.out w' hG; clear hG; go_simp; try (with_reducible rfl))
    simp only [Act.put, List.setIfInBounds_toArray, List.set_cons_zero, List.set_cons_succ]
    refine kept_want ?vpc6 (by rfl) ?ypc6 ?rpc6
    case ypc6 => (intro w' hG; obtain ⟨q0, q1, q2⟩ := qSpc.out w' hG; clear hG; go_simp; try (with_reducible rfl))
    simp only [Act.put, List.setIfInBounds_toArray, List.set_cons_zero, List.set_cons_succ]
    refine kept_want ?vpc7 (by rfl) ?ypc7 ?rpc7
    case ypc7 => (intro w' hG; obtain ⟨q0, q1, q2⟩ := qSpc.out w' hG; clear hG; go_simp; try (with_reducible rfl))
    simp only [Act.put, List.setIfInBounds_toArray, List.set_cons_zero, List.set_cons_succ]
    refine kept_want ?vpc8 (by rfl) ?ypc8 ?rpc8
    case ypc8 => (intro w' hG; go_simp; refine (HG.out _).mono ?_; rintro e w'' ⟨rfl, U⟩; refine ⟨?_, hG.trans U⟩; with_reducible rfl)
    simp only [Act.put, List.setIfInBounds_toArray, List.set_cons_zero, List.set_cons_succ]
    refine kept_want ?vpc9 (by rfl) ?ypc9 ?rpc9
    case ypc9 => (intro w' hG; obtain ⟨q0, q1, q2⟩ := qSpc.out w' hG; clear hG; go_simp; try (with_reducible rfl))
    simp only [Act.put, List.setIfInBounds_toArray, List.set_cons_zero, List.set_cons_succ]
    refine kept_want ?vpc10 (by rfl) ?ypc10 ?rpc10
    case ypc10 => (intro w' hG; obtain ⟨q0, q1, q2⟩ := qSpc.out w' hG; clear hG; go_simp; try (with_reducible rfl))
    simp only [Act.put, List.setIfInBounds_toArray, List.set_cons_zero, List.set_cons_succ]
    refine kept_want ?vpc11 (by rfl) ?ypc11 ?rpc11
    case ypc11 => (intro w' hG; obtain ⟨q0, q1, q2⟩ := qSpc.out w' hG; clear hG; go_simp; try (with_reducible rfl))
    simp only [Act.put, List.setIfInBounds_toArray, List.set_cons_zero, List.set_cons_succ]
    refine kept_nil ?_
    intro W4 hW4
    clear qSpc
    go_wp2
    go_ret2
    exact ⟨rfl, BB.trans (hW3.trans hW4)⟩
end Go.Proofs.Ytehlbcjfbofnnaa
