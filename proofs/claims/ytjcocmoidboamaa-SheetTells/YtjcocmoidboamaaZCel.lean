/-
  A cell that is taken off a page (package sheet's pieces.cell).
-/
import Derived.Test.YtjcocmoidboamaaZLea
namespace Go.Proofs.Ytjcocmoidboamaa
open Go Go.RowKit

/-- A variable of four cells. -/
structure V4 (w : World) (b : Nat) (a0 a1 a2 a3 : Value) : Prop where
  c0 : w.cell? ⟨b, 0, none⟩ = some a0
  c1 : w.cell? ⟨b, 1, none⟩ = some a1
  c2 : w.cell? ⟨b, 2, none⟩ = some a2
  c3 : w.cell? ⟨b, 3, none⟩ = some a3
  z0 : w.frozen? ⟨b, 0, none⟩ = false
  z1 : w.frozen? ⟨b, 1, none⟩ = false
  z2 : w.frozen? ⟨b, 2, none⟩ = false
  z3 : w.frozen? ⟨b, 3, none⟩ = false
section
variable {w w' : World} {b : Nat} {a0 a1 a2 a3 : Value}
theorem V4.lt (h : V4 w b a0 a1 a2 a3) : b < w.heap.size := cell_block h.c0
theorem V4.but {S : Nat → Prop} (h : V4 w b a0 a1 a2 a3) (g : But S w w') (hb : ¬ S b) : V4 w' b a0 a1 a2 a3 :=
  ⟨g.cell h.c0 hb, g.cell h.c1 hb, g.cell h.c2 hb, g.cell h.c3 hb, g.frozen h.lt hb h.z0, g.frozen h.lt hb h.z1, g.frozen h.lt hb h.z2, g.frozen h.lt hb h.z3⟩
theorem V4.grew (h : V4 w b a0 a1 a2 a3) (g : Grew w w') : V4 w' b a0 a1 a2 a3 := h.but (S := fun _ => False) (Go.Proofs.Ytjcocmoidboamaa.Grew.but g) (fun e => e)
theorem V4.new (w : World) (a b c d : Value) (t : TypeId) : V4 (w.alloc (.cells #[a, b, c, d] t)) w.heap.size a b c d := by
  obtain ⟨h0, h1, h2, h3⟩ := new4 w a b c d t
  exact ⟨h0, h1, h2, h3, frozen_of_row _ _ _ _ _ (heap_alloc_new w _), frozen_of_row _ _ _ _ _ (heap_alloc_new w _), frozen_of_row _ _ _ _ _ (heap_alloc_new w _), frozen_of_row _ _ _ _ _ (heap_alloc_new w _)⟩
theorem V4.set2 (h : V4 w b a0 a1 a2 a3) (x : Value) : V4 (w.setCell ⟨b, 2, none⟩ x) b a0 a1 x a3 := by
  obtain ⟨c0, c1, c2, c3, z0, z1, z2, z3⟩ := h
  constructor <;> simp [c0, c1, c2, c3, z0, z1, z2, z3, go_sem]
theorem V4.set3 (h : V4 w b a0 a1 a2 a3) (x : Value) : V4 (w.setCell ⟨b, 3, none⟩ x) b a0 a1 a2 x := by
  obtain ⟨c0, c1, c2, c3, z0, z1, z2, z3⟩ := h
  constructor <;> simp [c0, c1, c2, c3, z0, z1, z2, z3, go_sem]
end
theorem numR_drop (s : ByteArray) (i k : Nat) : numR (txt ((s.data.toList.drop i).take k)) = numR (s.extract i (i + k)) := by
  rw [ext_list, Nat.add_sub_cancel_left]
set_option maxHeartbeats 4000000 in
theorem cell_any (p i : Nat) (s : ByteArray) (w : World) (h : PcAt w p (s.data.toList.drop i)) (hs : s.size ≤ 1000000000) :
    Calls Try.prog 42 #[.pointer (some ⟨p, 0, none⟩)] w fun e w' => e = .returned (ceV (celAt s i)) ∧ PcAt w' p (s.data.toList.drop (i + 6 + celN s i)) ∧ But (fun i => i = p) w w' := by
  obtain ⟨X, hX⟩ : ∃ X, s.data.toList.drop i = X := ⟨_, rfl⟩
  have hsl : s.data.toList.length = s.size := Array.length_toList ..
  have hXl : X.length ≤ 1000000000 := by rw [← hX, List.length_drop]; omega
  have eK : Hid (numR (txt (X.take 4)) = celK s i) := by show _ = _; rw [← hX, numR_drop]; rfl
  have eZ : Hid (numR (txt ((X.drop 4).take 2)) = celZ s i) := by show _ = _; rw [← hX, List.drop_drop, numR_drop]; rfl
  have eX : Hid (∀ k, (X.drop 6).drop k = s.data.toList.drop (i + 6 + k)) := fun k => by rw [← hX, List.drop_drop, List.drop_drop, Nat.add_assoc]
  have e6 : (X.drop 4).drop 2 = X.drop 6 := by rw [List.drop_drop]
  have eT : Hid (∀ k, txt ((X.drop 6).take k) = s.extract (i + 6) (i + 6 + k)) := fun k => by
    rw [← hX, List.drop_drop, ext_list, Nat.add_sub_cancel_left]
  have hZr := celZ_le s i
  obtain ⟨Zn, hZn⟩ := Int.eq_ofNat_of_zero_le hZr.1
  rw [hX] at h
  have hI : Hid (∀ W, Calls Try.prog 46 #[.int .i64 (celZ s i)] W fun e w' => e = .returned (.bool (decide (celZ s i ≤ 24))) ∧ w' = W) := fun W => inline_any _ W
  have hc : Hid (celAt s i = if celZ s i ≤ 24 then ⟨celK s i, celZ s i, 0, s.extract (i + 6) (i + 6 + celN s i)⟩ else ⟨celK s i, celZ s i, numR (s.extract (i + 6) (i + 6 + celN s i)), ByteArray.empty⟩) := by
    show _ = _
    unfold celAt
    rfl
  have hn : Hid (celN s i = if celZ s i ≤ 24 then (celZ s i).toNat else 2) := by
    show _ = _
    unfold celN
    rfl
  have hN0 : Hid (∀ W, PcAt W p X → Calls Try.prog 40 #[.pointer (some ⟨p, 0, none⟩), .int .i64 4] W fun e w' => e = .returned (.int .i64 (numR (txt (X.take 4)))) ∧ PcAt w' p (X.drop 4) ∧ But (fun i => i = p) W w') := fun W g => pnumber_any p 4 X W g hXl (by omega)
  have hN1 : Hid (∀ W, PcAt W p (X.drop 4) → Calls Try.prog 40 #[.pointer (some ⟨p, 0, none⟩), .int .i64 2] W fun e w' => e = .returned (.int .i64 (numR (txt ((X.drop 4).take 2)))) ∧ PcAt w' p ((X.drop 4).drop 2) ∧ But (fun i => i = p) W w') := fun W g => pnumber_any p 2 _ W g (by rw [List.length_drop]; omega) (by omega)
  rw [eK.out] at hN0
  rw [eZ.out, e6] at hN1
  rw [hZn] at hI hc hn hN1 hZr
  generalize celK s i = K at *
  have hp := h.lt
  have h0 := h.grew ((Grew.refl w).alloc #[.int .i64 0, .int .i64 0, .int .i64 0, .string ByteArray.empty] 26)
  have v0 := V4.new w (.int .i64 0) (.int .i64 0) (.int .i64 0) (.string ByteArray.empty) 26
  have hpw : ¬ w.heap.size = p := by omega
  have hB0 : But (fun i => i = p ∨ w.heap.size ≤ i) w (w.alloc (.cells #[.int .i64 0, .int .i64 0, .int .i64 0, .string ByteArray.empty] 26)) := (But.refl _ w).alloc _
  by_cases hz : (Zn : Int) ≤ 24
  · rw [decide_eq_true hz] at hI
    rw [if_pos hz] at hc hn
    rw [Int.toNat_natCast] at hn
    rw [hn.out] at hc
    rw [hn.out]
    have hT : Hid (∀ W, PcAt W p (X.drop 6) → Calls Try.prog 43 #[.pointer (some ⟨p, 0, none⟩), .int .i64 (Zn : Int)] W fun e w' => e = .returned (.string (txt ((X.drop 6).take Zn))) ∧ PcAt w' p ((X.drop 6).drop Zn) ∧ But (fun i => i = p) W w') := fun W g => ptext_any p Zn _ W g (by rw [List.length_drop]; omega) (by omega)
    rw [eT.out, eX.out] at hT
    rw [hc.out]
    generalize s.extract (i + 6) (i + 6 + Zn) = T at *
    unfold ceV
    dsimp only
    clear hc hn eK eZ eX e6 eT hX h hsl
    go_enter Try.func42, Try.ntmps42
    go_wp2_with (first
      | (go_at_call 46; go_fit (hI.out _); rintro e w3 ⟨rfl, rfl⟩)
      | (go_at_call 40; go_fit (hN0.out _ h0); rintro e w1 ⟨rfl, h1, B1⟩; have v1 := v0.but B1 hpw)
      | (go_at_call 40; go_fit (hN1.out _ h1); rintro e w2 ⟨rfl, h2, B2⟩; have v2 := v1.but B2 hpw; have u2 := V4.new w2 (.int .i64 K) (.int .i64 Zn) (.int .i64 0) (.string ByteArray.empty) 26; have hp2 : ¬ w2.heap.size = p := (fun e => by have := h2.lt; omega); have h3 := h2.grew ((Grew.refl w2).alloc #[.int .i64 K, .int .i64 Zn, .int .i64 0, .string ByteArray.empty] 26); have v3 := v2.grew ((Grew.refl w2).alloc #[.int .i64 K, .int .i64 Zn, .int .i64 0, .string ByteArray.empty] 26); obtain ⟨x0, x1, x2, x3, y0, y1, y2, y3⟩ := id u2; have hne : ¬ w2.heap.size = w.heap.size := (fun e => by have := v2.lt; omega); have hne2 : ¬ w.heap.size = w2.heap.size := (fun e => hne e.symm))
      | (go_at_call 43; go_fit (hT.out _ h3); rintro e w4 ⟨rfl, h4, B4⟩; have u4 := u2.but B4 hp2; have v4 := v3.but B4 hpw; obtain ⟨p0, p1, p2, p3, q0, q1, q2, q3⟩ := id u4; obtain ⟨r0, r1, r2, r3, s0, s1, s2, s3⟩ := id v4)
      | fail)
    have hs2 : w.heap.size ≤ w2.heap.size := Nat.le_of_lt v2.lt
    have hK4 : But (fun i => ¬ i = p) w4 (((((w4.setCell ⟨w2.heap.size, 3, none⟩ (.string T)).setCell ⟨w.heap.size, 0, none⟩ (.int .i64 K)).setCell ⟨w.heap.size, 1, none⟩ (.int .i64 Zn)).setCell ⟨w.heap.size, 2, none⟩ (.int .i64 0)).setCell ⟨w.heap.size, 3, none⟩ (.string T)) :=
      (((((But.refl (fun i => ¬ i = p) w4).set (b := w2.heap.size) hp2 3 none _).set (b := w.heap.size) hpw 0 none _).set (b := w.heap.size) hpw 1 none _).set (b := w.heap.size) hpw 2 none _).set (b := w.heap.size) hpw 3 none _
    have hB : But (fun i => i = p ∨ w.heap.size ≤ i) w w4 := (((hB0.trans (B1.more fun _ _ e => .inl e)).trans (B2.more fun _ _ e => .inl e)).alloc _).trans (B4.more fun _ _ e => .inl e)
    have hB5 := ((((hB.set (b := w2.heap.size) (.inr hs2) 3 none (.string T)).set (b := w.heap.size) (.inr (Nat.le_refl _)) 0 none (.int .i64 K)).set (b := w.heap.size) (.inr (Nat.le_refl _)) 1 none (.int .i64 Zn)).set (b := w.heap.size) (.inr (Nat.le_refl _)) 2 none (.int .i64 0)).set (b := w.heap.size) (.inr (Nat.le_refl _)) 3 none (.string T)
    refine bodyPost_ret (v := .agg #[.int .i64 K, .int .i64 Zn, .int .i64 0, .string T]) (by simp [results, Try.results42, go_sem, r0, r1, r2, r3]) rfl ⟨rfl, h4.but hK4 (fun e => e rfl), hB5.more fun n hn e => e.resolve_right (by omega)⟩
  · rw [decide_eq_false hz] at hI
    rw [if_neg hz] at hc hn
    rw [hn.out] at hc
    rw [hn.out]
    have hT : Hid (∀ W, PcAt W p (X.drop 6) → Calls Try.prog 40 #[.pointer (some ⟨p, 0, none⟩), .int .i64 2] W fun e w' => e = .returned (.int .i64 (numR (txt ((X.drop 6).take 2)))) ∧ PcAt w' p ((X.drop 6).drop 2) ∧ But (fun i => i = p) W w') := fun W g => pnumber_any p 2 _ W g (by rw [List.length_drop]; omega) (by omega)
    rw [eT.out, eX.out] at hT
    rw [hc.out]
    generalize numR (s.extract (i + 6) (i + 6 + 2)) = Q at *
    unfold ceV
    dsimp only
    clear hc hn eK eZ eX e6 eT hX h hsl
    go_enter Try.func42, Try.ntmps42
    go_wp2_with (first
      | (go_at_call 46; go_fit (hI.out _); rintro e w3 ⟨rfl, rfl⟩)
      | (go_at_call 40; go_fit (hT.out _ h3); rintro e w4 ⟨rfl, h4, B4⟩; have u4 := u2.but B4 hp2; have v4 := v3.but B4 hpw; obtain ⟨p0, p1, p2, p3, q0, q1, q2, q3⟩ := id u4; obtain ⟨r0, r1, r2, r3, s0, s1, s2, s3⟩ := id v4)
      | (go_at_call 40; go_fit (hN0.out _ h0); rintro e w1 ⟨rfl, h1, B1⟩; have v1 := v0.but B1 hpw)
      | (go_at_call 40; go_fit (hN1.out _ h1); rintro e w2 ⟨rfl, h2, B2⟩; have v2 := v1.but B2 hpw; have u2 := V4.new w2 (.int .i64 K) (.int .i64 Zn) (.int .i64 0) (.string ByteArray.empty) 26; have hp2 : ¬ w2.heap.size = p := (fun e => by have := h2.lt; omega); have h3 := h2.grew ((Grew.refl w2).alloc #[.int .i64 K, .int .i64 Zn, .int .i64 0, .string ByteArray.empty] 26); have v3 := v2.grew ((Grew.refl w2).alloc #[.int .i64 K, .int .i64 Zn, .int .i64 0, .string ByteArray.empty] 26); obtain ⟨x0, x1, x2, x3, y0, y1, y2, y3⟩ := id u2; have hne : ¬ w2.heap.size = w.heap.size := (fun e => by have := v2.lt; omega); have hne2 : ¬ w.heap.size = w2.heap.size := (fun e => hne e.symm))
      | fail)
    have hs2 : w.heap.size ≤ w2.heap.size := Nat.le_of_lt v2.lt
    have hK4 : But (fun i => ¬ i = p) w4 (((((w4.setCell ⟨w2.heap.size, 2, none⟩ (.int .i64 Q)).setCell ⟨w.heap.size, 0, none⟩ (.int .i64 K)).setCell ⟨w.heap.size, 1, none⟩ (.int .i64 Zn)).setCell ⟨w.heap.size, 2, none⟩ (.int .i64 Q)).setCell ⟨w.heap.size, 3, none⟩ (.string ByteArray.empty)) :=
      (((((But.refl (fun i => ¬ i = p) w4).set (b := w2.heap.size) hp2 2 none _).set (b := w.heap.size) hpw 0 none _).set (b := w.heap.size) hpw 1 none _).set (b := w.heap.size) hpw 2 none _).set (b := w.heap.size) hpw 3 none _
    have hB : But (fun i => i = p ∨ w.heap.size ≤ i) w w4 := (((hB0.trans (B1.more fun _ _ e => .inl e)).trans (B2.more fun _ _ e => .inl e)).alloc _).trans (B4.more fun _ _ e => .inl e)
    have hB5 := ((((hB.set (b := w2.heap.size) (.inr hs2) 2 none (.int .i64 Q)).set (b := w.heap.size) (.inr (Nat.le_refl _)) 0 none (.int .i64 K)).set (b := w.heap.size) (.inr (Nat.le_refl _)) 1 none (.int .i64 Zn)).set (b := w.heap.size) (.inr (Nat.le_refl _)) 2 none (.int .i64 Q)).set (b := w.heap.size) (.inr (Nat.le_refl _)) 3 none (.string ByteArray.empty)
    refine bodyPost_ret (v := .agg #[.int .i64 K, .int .i64 Zn, .int .i64 Q, .string ByteArray.empty]) (by simp [results, Try.results42, go_sem, r0, r1, r2, r3]) rfl ⟨rfl, h4.but hK4 (fun e => e rfl), hB5.more fun n hn e => e.resolve_right (by omega)⟩
end Go.Proofs.Ytjcocmoidboamaa
