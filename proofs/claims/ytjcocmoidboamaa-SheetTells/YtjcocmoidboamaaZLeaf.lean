/-
  The document's own Leaf: cells in memory, as a page.
-/
import Derived.Test.YtjcocmoidboamaaZIdx
namespace Go.Proofs.Ytjcocmoidboamaa
open Go Go.RowKit

structure Ce where
  key : Int
  size : Int
  page : Int
  bytes : ByteArray
def noCe : Ce := ⟨0, 0, 0, ByteArray.empty⟩
def ceB (c : Ce) : List UInt8 := digs c.key.toNat 4 ++ digs c.size.toNat 2 ++ (if c.size ≤ 24 then c.bytes.data.toList else digs c.page.toNat 2)
theorem not_empty {T : ByteArray} (h : ¬ T = ByteArray.empty) : T.toList.isEmpty = false := by
  rw [ByteArray.toList_eq]
  obtain ⟨⟨l⟩⟩ := T
  cases l with
  | nil => exact absurd rfl h
  | cons a l => rfl
/-- A cell that may be, but for the order. -/
def ceGood (c : Ce) : Bool := keyB c.key && decide (0 ≤ c.size ∧ c.size ≤ 900) && (if c.size ≤ 24 then decide (c.page = 0 ∧ (c.bytes.size : Int) = c.size) else pageB c.page && decide (c.bytes = ByteArray.empty))
theorem good_key {c : Ce} (h : keyB c.key = false) : ceGood c = false := by unfold ceGood; rw [h]; rfl
theorem good_size {c : Ce} (h : c.size < 0 ∨ 900 < c.size) : ceGood c = false := by
  unfold ceGood
  rw [decide_eq_false (p := 0 ≤ c.size ∧ c.size ≤ 900) (by omega)]
  simp
theorem good_page {c : Ce} (hz : c.size ≤ 24) (h : ¬ c.page = 0) : ceGood c = false := by
  unfold ceGood
  rw [if_pos hz, decide_eq_false (p := c.page = 0 ∧ _) (fun e => h e.1)]
  simp
theorem good_len {c : Ce} (hz : c.size ≤ 24) (h : ¬ (c.bytes.size : Int) = c.size) : ceGood c = false := by
  unfold ceGood
  rw [if_pos hz, decide_eq_false (p := c.page = 0 ∧ _) (fun e => h e.2)]
  simp
theorem good_pageB {c : Ce} (hz : ¬ c.size ≤ 24) (h : pageB c.page = false) : ceGood c = false := by
  unfold ceGood
  rw [if_neg hz, h]
  simp
theorem good_bytes {c : Ce} (hz : ¬ c.size ≤ 24) (h : ¬ c.bytes = ByteArray.empty) : ceGood c = false := by
  unfold ceGood
  rw [if_neg hz, decide_eq_false h]
  simp
theorem good_in {c : Ce} (hk : keyB c.key = true) (h0 : 0 ≤ c.size) (hz : c.size ≤ 24) (hp : c.page = 0) (hl : (c.bytes.size : Int) = c.size) : ceGood c = true := by
  unfold ceGood
  rw [if_pos hz, hk, decide_eq_true (p := 0 ≤ c.size ∧ c.size ≤ 900) ⟨h0, by omega⟩, decide_eq_true (p := c.page = 0 ∧ _) ⟨hp, hl⟩]
  rfl
theorem good_out {c : Ce} (hk : keyB c.key = true) (hz : ¬ c.size ≤ 24) (h9 : c.size ≤ 900) (hp : pageB c.page = true) (hb : c.bytes = ByteArray.empty) : ceGood c = true := by
  unfold ceGood
  rw [if_neg hz, hk, hp, decide_eq_true (p := 0 ≤ c.size ∧ c.size ≤ 900) ⟨by omega, h9⟩, decide_eq_true hb]
  rfl
def ceOk (C : List Ce) (i : Nat) : Bool := ceGood (C.getD i noCe) && (decide (i = 0) || decide ((C.getD (i - 1) noCe).key < (C.getD i noCe).key))
theorem ceOk_zero (C : List Ce) : ceOk C 0 = ceGood (C.getD 0 noCe) := by simp [ceOk]
theorem ceOk_succ (C : List Ce) (k : Nat) : ceOk C (k + 1) = (ceGood (C.getD (k + 1) noCe) && decide ((C.getD k noCe).key < (C.getD (k + 1) noCe).key)) := by simp [ceOk]
def leafH (C : List Ce) (n : Nat) : List UInt8 := 76 :: (digs C.length 1 ++ (C.take n).flatMap ceB)
theorem leafH_up (C : List Ce) (n : Nat) (h : n < C.length) : leafH C (n + 1) = leafH C n ++ ceB (C.getD n noCe) := by
  have e : C.getD n noCe = C[n] := by simp [List.getD, h]
  rw [e, leafH, List.take_succ_eq_append_getElem h, List.flatMap_append]
  simp [leafH]
def leafOk (C : List Ce) : Bool := decide (C.length ≤ 200) && (List.range C.length).all (ceOk C) && decide ((leafH C C.length).length ≤ 128)
def leafL (C : List Ce) : List UInt8 := padL (leafH C C.length)
def leafV (C : List Ce) : ByteArray := if leafOk C then txt (leafL C) else ByteArray.empty
theorem leaf_no {C : List Ce} {k : Nat} (hk : k < C.length) (h : ceOk C k = false) : leafOk C = false := by
  cases e : leafOk C with
  | false => rfl
  | true =>
    simp only [leafOk, Bool.and_eq_true, List.all_eq_true] at e
    have := e.1.2 k (List.mem_range.2 hk)
    rw [h] at this
    cases this
theorem leaf_long {C : List Ce} (hn : 200 < C.length) : leafOk C = false := by
  unfold leafOk
  have : ¬ C.length ≤ 200 := by omega
  simp [this]
theorem leaf_end {C : List Ce} (hn : C.length ≤ 200) (h : ∀ k, k < C.length → ceOk C k = true) : leafOk C = decide ((leafH C C.length).length ≤ 128) := by
  have : (List.range C.length).all (ceOk C) = true := by
    simp only [List.all_eq_true]
    exact fun k hk => h k (List.mem_range.1 hk)
  unfold leafOk
  rw [this, decide_eq_true hn]
  simp
/-- Cells that lie in memory. -/
def C4 (w : World) (b : Nat) (K Z Q : Int) (T : ByteArray) : Prop := w.cell? ⟨b, 0, none⟩ = some (.int .i64 K) ∧ w.cell? ⟨b, 1, none⟩ = some (.int .i64 Z) ∧ w.cell? ⟨b, 2, none⟩ = some (.int .i64 Q) ∧ w.cell? ⟨b, 3, none⟩ = some (.string T)
theorem C4.grew {w w' : World} {b : Nat} {K Z Q : Int} {T : ByteArray} (h : C4 w b K Z Q T) (g : Grew w w') : C4 w' b K Z Q T := ⟨g.cell h.1, g.cell h.2.1, g.cell h.2.2.1, g.cell h.2.2.2⟩
theorem cell_new4 (w : World) (a b c d : Value) (t : TypeId) : (w.alloc (.cells #[a, b, c, d] t)).cell? ⟨w.heap.size, 0, none⟩ = some a ∧ (w.alloc (.cells #[a, b, c, d] t)).cell? ⟨w.heap.size, 1, none⟩ = some b ∧ (w.alloc (.cells #[a, b, c, d] t)).cell? ⟨w.heap.size, 2, none⟩ = some c ∧ (w.alloc (.cells #[a, b, c, d] t)).cell? ⟨w.heap.size, 3, none⟩ = some d := by
  refine ⟨?_, ?_, ?_, ?_⟩ <;> rw [cell_of_row _ _ _ _ _ _ (heap_alloc_new _ _)] <;> rfl
def CellAt (w : World) (b o : Nat) (c : Ce) : Prop := w.cell? ⟨b, o, none⟩ = some (.int .i64 c.key) ∧ w.cell? ⟨b, o + 1, none⟩ = some (.int .i64 c.size) ∧ w.cell? ⟨b, o + 2, none⟩ = some (.int .i64 c.page) ∧ w.cell? ⟨b, o + 3, none⟩ = some (.string c.bytes)
theorem CellAt.grew {w w' : World} {b o : Nat} {c : Ce} (h : CellAt w b o c) (g : Grew w w') : CellAt w' b o c := ⟨g.cell h.1, g.cell h.2.1, g.cell h.2.2.1, g.cell h.2.2.2⟩
def CellsAt (w : World) (a : Option Addr) (C : List Ce) : Prop := C = [] ∨ ∃ b off, a = some ⟨b, off, none⟩ ∧ ∀ i, i < C.length → CellAt w b (off + i * 4) (C.getD i noCe)
theorem ceB_len (c : Ce) (h : ceGood c = true) : (ceB c).length ≤ 30 := by
  unfold ceGood at h
  unfold ceB
  by_cases hz : c.size ≤ 24
  · simp only [hz, if_true, Bool.and_eq_true, decide_eq_true_eq] at h
    have : c.bytes.data.toList.length = c.bytes.size := Array.length_toList ..
    simp [hz, digs_len]
    omega
  · simp [hz, digs_len]
theorem leafH_le (C : List Ce) : ∀ n, n ≤ C.length → (∀ j, j < n → ceOk C j = true) → (leafH C n).length ≤ 2 + 30 * n := by
  intro n
  induction n with
  | zero => intro _ _; simp [leafH, digs_len]
  | succ n ih =>
    intro hn h
    have h1 := ih (by omega) (fun j hj => h j (by omega))
    have h2 := h n (by omega)
    simp only [ceOk, Bool.and_eq_true] at h2
    have h3 := ceB_len _ h2.1
    rw [leafH_up C n (by omega), List.length_append]
    omega
set_option maxRecDepth 10000 in
set_option maxHeartbeats 16000000 in
theorem refleaf_any (C : List Ce) (a : Option Addr) (cap : Nat) (w : World) (hS : CellsAt w a C) (hm : C.length < 1000000) : Calls Try.prog 14 #[.slice a C.length cap] w fun e w' => e = .returned (.tuple #[.string (leafV C), .bool (leafOk C)]) ∧ Grew w w' := by
  by_cases hn : 200 < C.length
  · have hni : (200 : Int) < C.length := by omega
    unfold leafV
    rw [leaf_long hn, if_neg (by decide)]
    clear hn hS
    go_enter Try.func14, Try.ntmps14
    go_wp2
    go_ret2
    exact ⟨rfl, Grew.refl _⟩
  have hni : ¬ (200 : Int) < C.length := by omega
  obtain ⟨n, hN⟩ : ∃ n, C.length = n := ⟨_, rfl⟩
  have h1 : Hid (∀ W, Calls Try.prog 33 #[.int .i64 (n : Int), .int .i64 1] W fun e w' => e = .returned (.string (txt (digs n 1))) ∧ Grew W w') := fun W => refbig_any n 1 (by omega) (by omega) W
  have hstart : Hid ((⟨#[76]⟩ : ByteArray) ++ txt (digs n 1) = txt (leafH C 0)) := by
    show _ = _
    rw [show (⟨#[76]⟩ : ByteArray) = txt [76] from rfl, txt_append, ← hN]
    simp [leafH]
  have hAll : Hid ((∀ k, k < n → ceOk C k = true) → leafOk C = decide ((leafH C n).length ≤ 128)) := fun h => by
    have := leaf_end (by omega) (fun k hk => h k (by omega))
    rw [this, hN]
  have hNone : Hid (∀ k, k < n → ceOk C k = false → Ending.returned (.tuple #[.string ByteArray.empty, .bool false]) = Ending.returned (.tuple #[.string (leafV C), .bool (leafOk C)])) := fun k hk h => by
    unfold leafV
    rw [leaf_no (by omega) h, if_neg (by decide)]
  have z0 : ¬ 9223372036854775807 < (⟨#[76]⟩ : ByteArray).size + (txt (digs n 1)).size := by rw [txt_size, digs_len]; decide
  have hSz : Hid (∀ k, k ≤ n → (∀ j, j < k → ceOk C j = true) → (txt (leafH C k)).size ≤ 10000) := fun k hk h => by
    have := leafH_le C k (by omega) h
    rw [txt_size]
    omega
  rw [hN]
  have hni : ¬ (200 : Int) < n := by omega
  have hNN : Hid (C.length = n) := hN
  have hn200 : n ≤ 200 := by omega
  clear hN hn hm
  go_enter Try.func14, Try.ntmps14
  go_wp2_with (first | (go_at_call 33; go_fit (h1.out _); rintro e w1 ⟨rfl, G0⟩) | fail)
  rw [hstart.out]
  go_loopw [4, 5] (fun s i wr => ∃ k : Nat, k ≤ n ∧ i = .int .i64 k ∧ s = .string (txt (leafH C k)) ∧ (∀ j, j < k → ceOk C j = true) ∧ Grew w wr) (fun _ i _ => n - (intOf i).toNat)
  case atStart => exact ⟨0, by omega, rfl, rfl, fun j hj => absurd hj (by omega), G0⟩
  case round =>
    clear G0
    obtain ⟨k, hk, rfl, rfl, hok, hG⟩ := hrel
    have hy := hSz.out k hk hok
    by_cases hlt : k < n
    · have hki : (k : Int) < n := by omega
      obtain ⟨b, off, rfl, hcs⟩ := hS.resolve_left (fun e => by have := hNN.out; rw [e] at this; simp at this; omega)
      have hb := hcs k (by rw [hNN.out]; exact hlt)
      obtain ⟨x, hx⟩ : ∃ x, C.getD k noCe = x := ⟨_, rfl⟩
      rw [hx] at hb
      obtain ⟨K, Z, Q, T⟩ := x
      have hK : Hid (∀ W, _) := fun W => refkey_any K W
      have hP : Hid (∀ W, _) := fun W => refpage_any Q W
      obtain ⟨e0, e1, e2, e3⟩ := hb.grew hG
      dsimp only at e0 e1 e2 e3
      have Z1 : Hid (¬ 9223372036854775807 < (txt (leafH C k)).size + 4 ∧ ¬ 9223372036854775807 < (txt (leafH C k)).size + 4 + 2 ∧ ¬ 9223372036854775807 < (txt (leafH C k)).size + 6) := (by omega : ¬ 9223372036854775807 < (txt (leafH C k)).size + 4 ∧ ¬ 9223372036854775807 < (txt (leafH C k)).size + 4 + 2 ∧ ¬ 9223372036854775807 < (txt (leafH C k)).size + 6)
      have y4 : (txt (digs K.toNat 4)).size = 4 := by rw [txt_size, digs_len]
      have y2 : (txt (digs Z.toNat 2)).size = 2 := by rw [txt_size, digs_len]
      cases k with
      | zero =>
        have e0 : wr.cell? ⟨b, off, none⟩ = some (.int .i64 K) := by simpa using e0
        have e1 : wr.cell? ⟨b, off + 1, none⟩ = some (.int .i64 Z) := by simpa using e1
        have e2 : wr.cell? ⟨b, off + 2, none⟩ = some (.int .i64 Q) := by simpa using e2
        have e3 : wr.cell? ⟨b, off + 3, none⟩ = some (.string T) := by simpa using e3
        have PV : Hid (∀ V, Grew wr V → True) := fun _ _ => trivial
        cases hkb : keyB K with
        | false =>
          rw [hkb] at hK
          have HF : Hid _ := hNone.out 0 hlt (by rw [ceOk_zero, hx]; exact good_key hkb)
          clear hb
          go_upto_region 8 with (fail)
          have hW : Grew w (wr.alloc (.cells #[.int .i64 K, .int .i64 Z, .int .i64 Q, .string T] 68)) := hG.alloc _ _
          have ca := cell_new4 wr (.int .i64 K) (.int .i64 Z) (.int .i64 Q) (.string T) 68
          have cp := PV.out _ ((Grew.refl wr).alloc (#[.int .i64 K, .int .i64 Z, .int .i64 Q, .string T]) 68)
          generalize wr.alloc (.cells #[.int .i64 K, .int .i64 Z, .int .i64 Q, .string T] 68) = W at *
          generalize wr.heap.size = q at *
          obtain ⟨d0, d1, d2, d3⟩ := ca
          clear e0 e1 e2 e3 hG
          go_quiet (first
            | (go_at_call 34; exact Calls.quiet_of_same (hK.out _))
            | fail)
          go_wp2_with (fail)
          go_ret2
          exact ⟨HF.out, hW.drewN _⟩
        | true =>
          rw [hkb] at hK
          have hk1 := (keyB_iff K).1 hkb
          by_cases hz0 : Z < 0
          · have HF : Hid _ := hNone.out (0) hlt (by rw [ceOk_zero, hx, good_size (.inl hz0)])
            clear hb
            go_upto_region 8 with (fail)
            have hW : Grew w (wr.alloc (.cells #[.int .i64 K, .int .i64 Z, .int .i64 Q, .string T] 68)) := hG.alloc _ _
            have ca := cell_new4 wr (.int .i64 K) (.int .i64 Z) (.int .i64 Q) (.string T) 68
            have cp := PV.out _ ((Grew.refl wr).alloc (#[.int .i64 K, .int .i64 Z, .int .i64 Q, .string T]) 68)
            generalize wr.alloc (.cells #[.int .i64 K, .int .i64 Z, .int .i64 Q, .string T] 68) = W at *
            generalize wr.heap.size = q at *
            obtain ⟨d0, d1, d2, d3⟩ := ca
            clear e0 e1 e2 e3 hG
            go_quiet (first
              | (go_at_call 34; exact Calls.quiet_of_same (hK.out _))
              | fail)
            go_wp2_with (fail)
            go_ret2
            exact ⟨HF.out, hW.drewN _⟩
          by_cases hz9 : 900 < Z
          · have HF : Hid _ := hNone.out (0) hlt (by rw [ceOk_zero, hx, good_size (.inr hz9)])
            clear hb
            go_upto_region 8 with (fail)
            have hW : Grew w (wr.alloc (.cells #[.int .i64 K, .int .i64 Z, .int .i64 Q, .string T] 68)) := hG.alloc _ _
            have ca := cell_new4 wr (.int .i64 K) (.int .i64 Z) (.int .i64 Q) (.string T) 68
            have cp := PV.out _ ((Grew.refl wr).alloc (#[.int .i64 K, .int .i64 Z, .int .i64 Q, .string T]) 68)
            generalize wr.alloc (.cells #[.int .i64 K, .int .i64 Z, .int .i64 Q, .string T] 68) = W at *
            generalize wr.heap.size = q at *
            obtain ⟨d0, d1, d2, d3⟩ := ca
            clear e0 e1 e2 e3 hG
            go_quiet (first
              | (go_at_call 34; exact Calls.quiet_of_same (hK.out _))
              | fail)
            go_wp2_with (fail)
            go_ret2
            exact ⟨HF.out, hW.drewN _⟩
          obtain ⟨z, rfl⟩ := Int.eq_ofNat_of_zero_le (a := Z) (by omega)
          have h4 : Hid (∀ W, Calls Try.prog 33 #[.int .i64 K, .int .i64 4] W fun e w' => e = .returned (.string (txt (digs K.toNat 4))) ∧ Grew W w') := fun W => by
            have := refbig_any K.toNat 4 (by omega) (by omega) W
            rw [show ((K.toNat : Nat) : Int) = K by omega] at this
            exact this
          have h2 : Hid (∀ W, Calls Try.prog 33 #[.int .i64 (z : Int), .int .i64 2] W fun e w' => e = .returned (.string (txt (digs z 2))) ∧ Grew W w') := fun W => refbig_any z 2 (by omega) (by omega) W
          clear y2
          have y2 : (txt (digs z 2)).size = 2 := by rw [txt_size, digs_len]
          by_cases hz2 : z ≤ 24
          · have hz2i : (z : Int) ≤ 24 := by omega
            by_cases hq : Q = 0
            · subst hq
              by_cases hT : T.size = z
              · have hTi : (T.size : Int) = z := by omega
                have hup : Hid (txt (leafH C (0)) ++ txt (digs K.toNat 4) ++ txt (digs z 2) ++ T = txt (leafH C (0 + 1))) := by
                  have e : txt (leafH C (0)) ++ txt (digs K.toNat 4) ++ txt (digs z 2) ++ txt T.data.toList = txt (leafH C (0 + 1)) := by
                    rw [leafH_up C (0) (by rw [hNN.out]; exact hlt), hx, txt_append, txt_append, txt_append]
                    simp [ceB, hz2i]
                  rw [txt_list] at e
                  exact e
                have hcur : Hid (∀ j, j < 0 + 1 → ceOk C j = true) := fun j hj => by
                  obtain rfl : j = 0 := by omega
                  rw [ceOk_zero, hx]
                  exact good_in hkb (Int.natCast_nonneg z) hz2i rfl hTi
                have Z2 : Hid (¬ 9223372036854775807 < (txt (leafH C (0))).size + 4 + 2 + z) := (by omega : ¬ 9223372036854775807 < (txt (leafH C (0))).size + 4 + 2 + z)
                clear hb
                go_upto_region 8 with (fail)
                have hW : Grew w (wr.alloc (.cells #[.int .i64 K, .int .i64 (z : Int), .int .i64 0, .string T] 68)) := hG.alloc _ _
                have ca := cell_new4 wr (.int .i64 K) (.int .i64 (z : Int)) (.int .i64 0) (.string T) 68
                have cp := PV.out _ ((Grew.refl wr).alloc (#[.int .i64 K, .int .i64 (z : Int), .int .i64 0, .string T]) 68)
                generalize wr.alloc (.cells #[.int .i64 K, .int .i64 (z : Int), .int .i64 0, .string T] 68) = W at *
                generalize wr.heap.size = q at *
                obtain ⟨d0, d1, d2, d3⟩ := ca
                clear e0 e1 e2 e3 hG
                go_quiet (first
                  | (go_at_call 34; exact Calls.quiet_of_same (hK.out _))
                  | fail)
                go_upto_region 10 with (fail)
                have hX : Grew w (W.drewN nq) := hW.drewN _
                have dd : C4 (W.drewN nq) q K (z : Int) 0 T := ⟨d0, d1, d2, d3⟩
                clear d0 d1 d2 d3 hW cp
                generalize W.drewN nq = X at *
                have qSlg : Hid (∀ w', Grew X w' → (w'.cell? ⟨q, 0, none⟩ = some (.int .i64 K) ∧ w'.cell? ⟨q, 1, none⟩ = some (.int .i64 (z : Int)))) := fun w' g => ⟨g.cell dd.1, g.cell dd.2.1⟩
                refine kept_region X (by kernel_rfl) (by kernel_rfl) ?_
                refine kept_want ?vlg0 (by rfl) ?ylg0 ?rlg0
                case ylg0 => (intro w' hG; obtain ⟨q0, q1⟩ := qSlg.out w' hG; clear hG; obtain ⟨z1, z2, z3⟩ := Z1.out; go_simp; try (with_reducible rfl))
                simp only [Act.put, List.setIfInBounds_toArray, List.set_cons_zero, List.set_cons_succ]
                refine kept_want ?vlg1 (by rfl) ?ylg1 ?rlg1
                case ylg1 => (intro w' hG; obtain ⟨q0, q1⟩ := qSlg.out w' hG; clear hG; obtain ⟨z1, z2, z3⟩ := Z1.out; go_simp; try (with_reducible rfl))
                simp only [Act.put, List.setIfInBounds_toArray, List.set_cons_zero, List.set_cons_succ]
                refine kept_want ?vlg2 (by rfl) ?ylg2 ?rlg2
                case ylg2 => (intro w' hG; obtain ⟨q0, q1⟩ := qSlg.out w' hG; clear hG; obtain ⟨z1, z2, z3⟩ := Z1.out; go_simp; try (with_reducible rfl))
                simp only [Act.put, List.setIfInBounds_toArray, List.set_cons_zero, List.set_cons_succ]
                refine kept_want ?vlg3 (by rfl) ?ylg3 ?rlg3
                case ylg3 => (intro w' hG; go_simp; refine (h4.out _).mono ?_; rintro e w'' ⟨rfl, U⟩; refine ⟨?_, hG.trans U⟩; with_reducible rfl)
                simp only [Act.put, List.setIfInBounds_toArray, List.set_cons_zero, List.set_cons_succ]
                refine kept_want ?vlg4 (by rfl) ?ylg4 ?rlg4
                case ylg4 => (intro w' hG; obtain ⟨q0, q1⟩ := qSlg.out w' hG; clear hG; obtain ⟨z1, z2, z3⟩ := Z1.out; go_simp; try (with_reducible rfl))
                simp only [Act.put, List.setIfInBounds_toArray, List.set_cons_zero, List.set_cons_succ]
                refine kept_want ?vlg5 (by rfl) ?ylg5 ?rlg5
                case ylg5 => (intro w' hG; obtain ⟨q0, q1⟩ := qSlg.out w' hG; clear hG; obtain ⟨z1, z2, z3⟩ := Z1.out; go_simp; try (with_reducible rfl))
                simp only [Act.put, List.setIfInBounds_toArray, List.set_cons_zero, List.set_cons_succ]
                refine kept_want ?vlg6 (by rfl) ?ylg6 ?rlg6
                case ylg6 => (intro w' hG; obtain ⟨q0, q1⟩ := qSlg.out w' hG; clear hG; obtain ⟨z1, z2, z3⟩ := Z1.out; go_simp; try (with_reducible rfl))
                simp only [Act.put, List.setIfInBounds_toArray, List.set_cons_zero, List.set_cons_succ]
                refine kept_want ?vlg7 (by rfl) ?ylg7 ?rlg7
                case ylg7 => (intro w' hG; go_simp; refine (h2.out _).mono ?_; rintro e w'' ⟨rfl, U⟩; refine ⟨?_, hG.trans U⟩; with_reducible rfl)
                simp only [Act.put, List.setIfInBounds_toArray, List.set_cons_zero, List.set_cons_succ]
                refine kept_want ?vlg8 (by rfl) ?ylg8 ?rlg8
                case ylg8 => (intro w' hG; obtain ⟨q0, q1⟩ := qSlg.out w' hG; clear hG; obtain ⟨z1, z2, z3⟩ := Z1.out; go_simp; try (with_reducible rfl))
                simp only [Act.put, List.setIfInBounds_toArray, List.set_cons_zero, List.set_cons_succ]
                refine kept_want ?vlg9 (by rfl) ?ylg9 ?rlg9
                case ylg9 => (intro w' hG; obtain ⟨q0, q1⟩ := qSlg.out w' hG; clear hG; obtain ⟨z1, z2, z3⟩ := Z1.out; go_simp; try (with_reducible rfl))
                simp only [Act.put, List.setIfInBounds_toArray, List.set_cons_zero, List.set_cons_succ]
                refine kept_nil ?_
                intro V hV
                clear qSlg
                have dv := dd.grew hV
                obtain ⟨d0, d1, d2, d3⟩ := dv
                have hY := hX.trans hV
                clear dd hX hV
                have z4 := Z2.out
                go_wp2_with (fail)
                refine ⟨⟨0 + 1, hlt, by simp, congrArg Value.string hup.out, hcur.out, hY⟩, ?_⟩
                first | exact meas_up hlt | exact zmeas0 hlt | exact zmeas1 hlt
              · have hTi : ¬ (T.size : Int) = z := by omega
                have HF : Hid _ := hNone.out (0) hlt (by rw [ceOk_zero, hx, good_len hz2i hTi])
                clear hb
                go_upto_region 8 with (fail)
                have hW : Grew w (wr.alloc (.cells #[.int .i64 K, .int .i64 (z : Int), .int .i64 0, .string T] 68)) := hG.alloc _ _
                have ca := cell_new4 wr (.int .i64 K) (.int .i64 (z : Int)) (.int .i64 0) (.string T) 68
                have cp := PV.out _ ((Grew.refl wr).alloc (#[.int .i64 K, .int .i64 (z : Int), .int .i64 0, .string T]) 68)
                generalize wr.alloc (.cells #[.int .i64 K, .int .i64 (z : Int), .int .i64 0, .string T] 68) = W at *
                generalize wr.heap.size = q at *
                obtain ⟨d0, d1, d2, d3⟩ := ca
                clear e0 e1 e2 e3 hG
                go_quiet (first
                  | (go_at_call 34; exact Calls.quiet_of_same (hK.out _))
                  | fail)
                go_upto_region 10 with (fail)
                have hX : Grew w (W.drewN nq) := hW.drewN _
                have dd : C4 (W.drewN nq) q K (z : Int) 0 T := ⟨d0, d1, d2, d3⟩
                clear d0 d1 d2 d3 hW cp
                generalize W.drewN nq = X at *
                have qSlh : Hid (∀ w', Grew X w' → (w'.cell? ⟨q, 0, none⟩ = some (.int .i64 K) ∧ w'.cell? ⟨q, 1, none⟩ = some (.int .i64 (z : Int)))) := fun w' g => ⟨g.cell dd.1, g.cell dd.2.1⟩
                refine kept_region X (by kernel_rfl) (by kernel_rfl) ?_
                refine kept_want ?vlh0 (by rfl) ?ylh0 ?rlh0
                case ylh0 => (intro w' hG; obtain ⟨q0, q1⟩ := qSlh.out w' hG; clear hG; obtain ⟨z1, z2, z3⟩ := Z1.out; go_simp; try (with_reducible rfl))
                simp only [Act.put, List.setIfInBounds_toArray, List.set_cons_zero, List.set_cons_succ]
                refine kept_want ?vlh1 (by rfl) ?ylh1 ?rlh1
                case ylh1 => (intro w' hG; obtain ⟨q0, q1⟩ := qSlh.out w' hG; clear hG; obtain ⟨z1, z2, z3⟩ := Z1.out; go_simp; try (with_reducible rfl))
                simp only [Act.put, List.setIfInBounds_toArray, List.set_cons_zero, List.set_cons_succ]
                refine kept_want ?vlh2 (by rfl) ?ylh2 ?rlh2
                case ylh2 => (intro w' hG; obtain ⟨q0, q1⟩ := qSlh.out w' hG; clear hG; obtain ⟨z1, z2, z3⟩ := Z1.out; go_simp; try (with_reducible rfl))
                simp only [Act.put, List.setIfInBounds_toArray, List.set_cons_zero, List.set_cons_succ]
                refine kept_want ?vlh3 (by rfl) ?ylh3 ?rlh3
                case ylh3 => (intro w' hG; go_simp; refine (h4.out _).mono ?_; rintro e w'' ⟨rfl, U⟩; refine ⟨?_, hG.trans U⟩; with_reducible rfl)
                simp only [Act.put, List.setIfInBounds_toArray, List.set_cons_zero, List.set_cons_succ]
                refine kept_want ?vlh4 (by rfl) ?ylh4 ?rlh4
                case ylh4 => (intro w' hG; obtain ⟨q0, q1⟩ := qSlh.out w' hG; clear hG; obtain ⟨z1, z2, z3⟩ := Z1.out; go_simp; try (with_reducible rfl))
                simp only [Act.put, List.setIfInBounds_toArray, List.set_cons_zero, List.set_cons_succ]
                refine kept_want ?vlh5 (by rfl) ?ylh5 ?rlh5
                case ylh5 => (intro w' hG; obtain ⟨q0, q1⟩ := qSlh.out w' hG; clear hG; obtain ⟨z1, z2, z3⟩ := Z1.out; go_simp; try (with_reducible rfl))
                simp only [Act.put, List.setIfInBounds_toArray, List.set_cons_zero, List.set_cons_succ]
                refine kept_want ?vlh6 (by rfl) ?ylh6 ?rlh6
                case ylh6 => (intro w' hG; obtain ⟨q0, q1⟩ := qSlh.out w' hG; clear hG; obtain ⟨z1, z2, z3⟩ := Z1.out; go_simp; try (with_reducible rfl))
                simp only [Act.put, List.setIfInBounds_toArray, List.set_cons_zero, List.set_cons_succ]
                refine kept_want ?vlh7 (by rfl) ?ylh7 ?rlh7
                case ylh7 => (intro w' hG; go_simp; refine (h2.out _).mono ?_; rintro e w'' ⟨rfl, U⟩; refine ⟨?_, hG.trans U⟩; with_reducible rfl)
                simp only [Act.put, List.setIfInBounds_toArray, List.set_cons_zero, List.set_cons_succ]
                refine kept_want ?vlh8 (by rfl) ?ylh8 ?rlh8
                case ylh8 => (intro w' hG; obtain ⟨q0, q1⟩ := qSlh.out w' hG; clear hG; obtain ⟨z1, z2, z3⟩ := Z1.out; go_simp; try (with_reducible rfl))
                simp only [Act.put, List.setIfInBounds_toArray, List.set_cons_zero, List.set_cons_succ]
                refine kept_want ?vlh9 (by rfl) ?ylh9 ?rlh9
                case ylh9 => (intro w' hG; obtain ⟨q0, q1⟩ := qSlh.out w' hG; clear hG; obtain ⟨z1, z2, z3⟩ := Z1.out; go_simp; try (with_reducible rfl))
                simp only [Act.put, List.setIfInBounds_toArray, List.set_cons_zero, List.set_cons_succ]
                refine kept_nil ?_
                intro V hV
                clear qSlh
                have dv := dd.grew hV
                obtain ⟨d0, d1, d2, d3⟩ := dv
                have hY := hX.trans hV
                clear dd hX hV
                go_wp2_with (first | (go_at_call 35; go_fit (hP.out _); rintro e w1 ⟨rfl, rfl⟩) | fail)
                go_ret2
                exact ⟨HF.out, hY⟩
            · have HF : Hid _ := hNone.out (0) hlt (by rw [ceOk_zero, hx, good_page hz2i hq])
              clear hb
              go_upto_region 8 with (fail)
              have hW : Grew w (wr.alloc (.cells #[.int .i64 K, .int .i64 (z : Int), .int .i64 Q, .string T] 68)) := hG.alloc _ _
              have ca := cell_new4 wr (.int .i64 K) (.int .i64 (z : Int)) (.int .i64 Q) (.string T) 68
              have cp := PV.out _ ((Grew.refl wr).alloc (#[.int .i64 K, .int .i64 (z : Int), .int .i64 Q, .string T]) 68)
              generalize wr.alloc (.cells #[.int .i64 K, .int .i64 (z : Int), .int .i64 Q, .string T] 68) = W at *
              generalize wr.heap.size = q at *
              obtain ⟨d0, d1, d2, d3⟩ := ca
              clear e0 e1 e2 e3 hG
              go_quiet (first
                | (go_at_call 34; exact Calls.quiet_of_same (hK.out _))
                | fail)
              go_upto_region 10 with (fail)
              have hX : Grew w (W.drewN nq) := hW.drewN _
              have dd : C4 (W.drewN nq) q K (z : Int) Q T := ⟨d0, d1, d2, d3⟩
              clear d0 d1 d2 d3 hW cp
              generalize W.drewN nq = X at *
              have qSli : Hid (∀ w', Grew X w' → (w'.cell? ⟨q, 0, none⟩ = some (.int .i64 K) ∧ w'.cell? ⟨q, 1, none⟩ = some (.int .i64 (z : Int)))) := fun w' g => ⟨g.cell dd.1, g.cell dd.2.1⟩
              refine kept_region X (by kernel_rfl) (by kernel_rfl) ?_
              refine kept_want ?vli0 (by rfl) ?yli0 ?rli0
              case yli0 => (intro w' hG; obtain ⟨q0, q1⟩ := qSli.out w' hG; clear hG; obtain ⟨z1, z2, z3⟩ := Z1.out; go_simp; try (with_reducible rfl))
              simp only [Act.put, List.setIfInBounds_toArray, List.set_cons_zero, List.set_cons_succ]
              refine kept_want ?vli1 (by rfl) ?yli1 ?rli1
              case yli1 => (intro w' hG; obtain ⟨q0, q1⟩ := qSli.out w' hG; clear hG; obtain ⟨z1, z2, z3⟩ := Z1.out; go_simp; try (with_reducible rfl))
              simp only [Act.put, List.setIfInBounds_toArray, List.set_cons_zero, List.set_cons_succ]
              refine kept_want ?vli2 (by rfl) ?yli2 ?rli2
              case yli2 => (intro w' hG; obtain ⟨q0, q1⟩ := qSli.out w' hG; clear hG; obtain ⟨z1, z2, z3⟩ := Z1.out; go_simp; try (with_reducible rfl))
              simp only [Act.put, List.setIfInBounds_toArray, List.set_cons_zero, List.set_cons_succ]
              refine kept_want ?vli3 (by rfl) ?yli3 ?rli3
              case yli3 => (intro w' hG; go_simp; refine (h4.out _).mono ?_; rintro e w'' ⟨rfl, U⟩; refine ⟨?_, hG.trans U⟩; with_reducible rfl)
              simp only [Act.put, List.setIfInBounds_toArray, List.set_cons_zero, List.set_cons_succ]
              refine kept_want ?vli4 (by rfl) ?yli4 ?rli4
              case yli4 => (intro w' hG; obtain ⟨q0, q1⟩ := qSli.out w' hG; clear hG; obtain ⟨z1, z2, z3⟩ := Z1.out; go_simp; try (with_reducible rfl))
              simp only [Act.put, List.setIfInBounds_toArray, List.set_cons_zero, List.set_cons_succ]
              refine kept_want ?vli5 (by rfl) ?yli5 ?rli5
              case yli5 => (intro w' hG; obtain ⟨q0, q1⟩ := qSli.out w' hG; clear hG; obtain ⟨z1, z2, z3⟩ := Z1.out; go_simp; try (with_reducible rfl))
              simp only [Act.put, List.setIfInBounds_toArray, List.set_cons_zero, List.set_cons_succ]
              refine kept_want ?vli6 (by rfl) ?yli6 ?rli6
              case yli6 => (intro w' hG; obtain ⟨q0, q1⟩ := qSli.out w' hG; clear hG; obtain ⟨z1, z2, z3⟩ := Z1.out; go_simp; try (with_reducible rfl))
              simp only [Act.put, List.setIfInBounds_toArray, List.set_cons_zero, List.set_cons_succ]
              refine kept_want ?vli7 (by rfl) ?yli7 ?rli7
              case yli7 => (intro w' hG; go_simp; refine (h2.out _).mono ?_; rintro e w'' ⟨rfl, U⟩; refine ⟨?_, hG.trans U⟩; with_reducible rfl)
              simp only [Act.put, List.setIfInBounds_toArray, List.set_cons_zero, List.set_cons_succ]
              refine kept_want ?vli8 (by rfl) ?yli8 ?rli8
              case yli8 => (intro w' hG; obtain ⟨q0, q1⟩ := qSli.out w' hG; clear hG; obtain ⟨z1, z2, z3⟩ := Z1.out; go_simp; try (with_reducible rfl))
              simp only [Act.put, List.setIfInBounds_toArray, List.set_cons_zero, List.set_cons_succ]
              refine kept_want ?vli9 (by rfl) ?yli9 ?rli9
              case yli9 => (intro w' hG; obtain ⟨q0, q1⟩ := qSli.out w' hG; clear hG; obtain ⟨z1, z2, z3⟩ := Z1.out; go_simp; try (with_reducible rfl))
              simp only [Act.put, List.setIfInBounds_toArray, List.set_cons_zero, List.set_cons_succ]
              refine kept_nil ?_
              intro V hV
              clear qSli
              have dv := dd.grew hV
              obtain ⟨d0, d1, d2, d3⟩ := dv
              have hY := hX.trans hV
              clear dd hX hV
              go_wp2_with (first | (go_at_call 35; go_fit (hP.out _); rintro e w1 ⟨rfl, rfl⟩) | fail)
              go_ret2
              exact ⟨HF.out, hY⟩
          · have hz2i : ¬ (z : Int) ≤ 24 := by omega
            cases hpb : pageB Q with
            | false =>
              rw [hpb] at hP
              have HF : Hid _ := hNone.out (0) hlt (by rw [ceOk_zero, hx, good_pageB hz2i hpb])
              clear hb
              go_upto_region 8 with (fail)
              have hW : Grew w (wr.alloc (.cells #[.int .i64 K, .int .i64 (z : Int), .int .i64 Q, .string T] 68)) := hG.alloc _ _
              have ca := cell_new4 wr (.int .i64 K) (.int .i64 (z : Int)) (.int .i64 Q) (.string T) 68
              have cp := PV.out _ ((Grew.refl wr).alloc (#[.int .i64 K, .int .i64 (z : Int), .int .i64 Q, .string T]) 68)
              generalize wr.alloc (.cells #[.int .i64 K, .int .i64 (z : Int), .int .i64 Q, .string T] 68) = W at *
              generalize wr.heap.size = q at *
              obtain ⟨d0, d1, d2, d3⟩ := ca
              clear e0 e1 e2 e3 hG
              go_quiet (first
                | (go_at_call 34; exact Calls.quiet_of_same (hK.out _))
                | fail)
              go_upto_region 10 with (fail)
              have hX : Grew w (W.drewN nq) := hW.drewN _
              have dd : C4 (W.drewN nq) q K (z : Int) Q T := ⟨d0, d1, d2, d3⟩
              clear d0 d1 d2 d3 hW cp
              generalize W.drewN nq = X at *
              have qSlj : Hid (∀ w', Grew X w' → (w'.cell? ⟨q, 0, none⟩ = some (.int .i64 K) ∧ w'.cell? ⟨q, 1, none⟩ = some (.int .i64 (z : Int)))) := fun w' g => ⟨g.cell dd.1, g.cell dd.2.1⟩
              refine kept_region X (by kernel_rfl) (by kernel_rfl) ?_
              refine kept_want ?vlj0 (by rfl) ?ylj0 ?rlj0
              case ylj0 => (intro w' hG; obtain ⟨q0, q1⟩ := qSlj.out w' hG; clear hG; obtain ⟨z1, z2, z3⟩ := Z1.out; go_simp; try (with_reducible rfl))
              simp only [Act.put, List.setIfInBounds_toArray, List.set_cons_zero, List.set_cons_succ]
              refine kept_want ?vlj1 (by rfl) ?ylj1 ?rlj1
              case ylj1 => (intro w' hG; obtain ⟨q0, q1⟩ := qSlj.out w' hG; clear hG; obtain ⟨z1, z2, z3⟩ := Z1.out; go_simp; try (with_reducible rfl))
              simp only [Act.put, List.setIfInBounds_toArray, List.set_cons_zero, List.set_cons_succ]
              refine kept_want ?vlj2 (by rfl) ?ylj2 ?rlj2
              case ylj2 => (intro w' hG; obtain ⟨q0, q1⟩ := qSlj.out w' hG; clear hG; obtain ⟨z1, z2, z3⟩ := Z1.out; go_simp; try (with_reducible rfl))
              simp only [Act.put, List.setIfInBounds_toArray, List.set_cons_zero, List.set_cons_succ]
              refine kept_want ?vlj3 (by rfl) ?ylj3 ?rlj3
              case ylj3 => (intro w' hG; go_simp; refine (h4.out _).mono ?_; rintro e w'' ⟨rfl, U⟩; refine ⟨?_, hG.trans U⟩; with_reducible rfl)
              simp only [Act.put, List.setIfInBounds_toArray, List.set_cons_zero, List.set_cons_succ]
              refine kept_want ?vlj4 (by rfl) ?ylj4 ?rlj4
              case ylj4 => (intro w' hG; obtain ⟨q0, q1⟩ := qSlj.out w' hG; clear hG; obtain ⟨z1, z2, z3⟩ := Z1.out; go_simp; try (with_reducible rfl))
              simp only [Act.put, List.setIfInBounds_toArray, List.set_cons_zero, List.set_cons_succ]
              refine kept_want ?vlj5 (by rfl) ?ylj5 ?rlj5
              case ylj5 => (intro w' hG; obtain ⟨q0, q1⟩ := qSlj.out w' hG; clear hG; obtain ⟨z1, z2, z3⟩ := Z1.out; go_simp; try (with_reducible rfl))
              simp only [Act.put, List.setIfInBounds_toArray, List.set_cons_zero, List.set_cons_succ]
              refine kept_want ?vlj6 (by rfl) ?ylj6 ?rlj6
              case ylj6 => (intro w' hG; obtain ⟨q0, q1⟩ := qSlj.out w' hG; clear hG; obtain ⟨z1, z2, z3⟩ := Z1.out; go_simp; try (with_reducible rfl))
              simp only [Act.put, List.setIfInBounds_toArray, List.set_cons_zero, List.set_cons_succ]
              refine kept_want ?vlj7 (by rfl) ?ylj7 ?rlj7
              case ylj7 => (intro w' hG; go_simp; refine (h2.out _).mono ?_; rintro e w'' ⟨rfl, U⟩; refine ⟨?_, hG.trans U⟩; with_reducible rfl)
              simp only [Act.put, List.setIfInBounds_toArray, List.set_cons_zero, List.set_cons_succ]
              refine kept_want ?vlj8 (by rfl) ?ylj8 ?rlj8
              case ylj8 => (intro w' hG; obtain ⟨q0, q1⟩ := qSlj.out w' hG; clear hG; obtain ⟨z1, z2, z3⟩ := Z1.out; go_simp; try (with_reducible rfl))
              simp only [Act.put, List.setIfInBounds_toArray, List.set_cons_zero, List.set_cons_succ]
              refine kept_want ?vlj9 (by rfl) ?ylj9 ?rlj9
              case ylj9 => (intro w' hG; obtain ⟨q0, q1⟩ := qSlj.out w' hG; clear hG; obtain ⟨z1, z2, z3⟩ := Z1.out; go_simp; try (with_reducible rfl))
              simp only [Act.put, List.setIfInBounds_toArray, List.set_cons_zero, List.set_cons_succ]
              refine kept_nil ?_
              intro V hV
              clear qSlj
              have dv := dd.grew hV
              obtain ⟨d0, d1, d2, d3⟩ := dv
              have hY := hX.trans hV
              clear dd hX hV
              go_wp2_with (first | (go_at_call 35; go_fit (hP.out _); rintro e w1 ⟨rfl, rfl⟩) | fail)
              go_ret2
              exact ⟨HF.out, hY⟩
            | true =>
              rw [hpb] at hP
              have hp1 := (pageB_iff Q).1 hpb
              by_cases hT : T = ByteArray.empty
              · subst hT
                have hp2 : Hid (∀ W, Calls Try.prog 33 #[.int .i64 Q, .int .i64 2] W fun e w' => e = .returned (.string (txt (digs Q.toNat 2))) ∧ Grew W w') := fun W => by
                  have := refbig_any Q.toNat 2 (by omega) (by omega) W
                  rw [show ((Q.toNat : Nat) : Int) = Q by omega] at this
                  exact this
                have hup : Hid (txt (leafH C (0)) ++ txt (digs K.toNat 4) ++ txt (digs z 2) ++ txt (digs Q.toNat 2) = txt (leafH C (0 + 1))) := by
                  show _ = _
                  rw [leafH_up C (0) (by rw [hNN.out]; exact hlt), hx, txt_append, txt_append, txt_append]
                  simp [ceB, hz2i]
                have hcur : Hid (∀ j, j < 0 + 1 → ceOk C j = true) := fun j hj => by
                  obtain rfl : j = 0 := by omega
                  rw [ceOk_zero, hx]
                  exact good_out hkb hz2i (Int.not_lt.1 hz9) hpb rfl
                have y9 : (txt (digs Q.toNat 2)).size = 2 := by rw [txt_size, digs_len]
                have Z2 : Hid (¬ 9223372036854775807 < (txt (leafH C (0))).size + 4 + 2 + 2) := (by omega : ¬ 9223372036854775807 < (txt (leafH C (0))).size + 4 + 2 + 2)
                clear hb hp1
                go_upto_region 8 with (fail)
                have hW : Grew w (wr.alloc (.cells #[.int .i64 K, .int .i64 (z : Int), .int .i64 Q, .string ByteArray.empty] 68)) := hG.alloc _ _
                have ca := cell_new4 wr (.int .i64 K) (.int .i64 (z : Int)) (.int .i64 Q) (.string ByteArray.empty) 68
                have cp := PV.out _ ((Grew.refl wr).alloc (#[.int .i64 K, .int .i64 (z : Int), .int .i64 Q, .string ByteArray.empty]) 68)
                generalize wr.alloc (.cells #[.int .i64 K, .int .i64 (z : Int), .int .i64 Q, .string ByteArray.empty] 68) = W at *
                generalize wr.heap.size = q at *
                obtain ⟨d0, d1, d2, d3⟩ := ca
                clear e0 e1 e2 e3 hG
                go_quiet (first
                  | (go_at_call 34; exact Calls.quiet_of_same (hK.out _))
                  | fail)
                go_upto_region 10 with (fail)
                have hX : Grew w (W.drewN nq) := hW.drewN _
                have dd : C4 (W.drewN nq) q K (z : Int) Q ByteArray.empty := ⟨d0, d1, d2, d3⟩
                clear d0 d1 d2 d3 hW cp
                generalize W.drewN nq = X at *
                have qSlk : Hid (∀ w', Grew X w' → (w'.cell? ⟨q, 0, none⟩ = some (.int .i64 K) ∧ w'.cell? ⟨q, 1, none⟩ = some (.int .i64 (z : Int)))) := fun w' g => ⟨g.cell dd.1, g.cell dd.2.1⟩
                refine kept_region X (by kernel_rfl) (by kernel_rfl) ?_
                refine kept_want ?vlk0 (by rfl) ?ylk0 ?rlk0
                case ylk0 => (intro w' hG; obtain ⟨q0, q1⟩ := qSlk.out w' hG; clear hG; obtain ⟨z1, z2, z3⟩ := Z1.out; go_simp; try (with_reducible rfl))
                simp only [Act.put, List.setIfInBounds_toArray, List.set_cons_zero, List.set_cons_succ]
                refine kept_want ?vlk1 (by rfl) ?ylk1 ?rlk1
                case ylk1 => (intro w' hG; obtain ⟨q0, q1⟩ := qSlk.out w' hG; clear hG; obtain ⟨z1, z2, z3⟩ := Z1.out; go_simp; try (with_reducible rfl))
                simp only [Act.put, List.setIfInBounds_toArray, List.set_cons_zero, List.set_cons_succ]
                refine kept_want ?vlk2 (by rfl) ?ylk2 ?rlk2
                case ylk2 => (intro w' hG; obtain ⟨q0, q1⟩ := qSlk.out w' hG; clear hG; obtain ⟨z1, z2, z3⟩ := Z1.out; go_simp; try (with_reducible rfl))
                simp only [Act.put, List.setIfInBounds_toArray, List.set_cons_zero, List.set_cons_succ]
                refine kept_want ?vlk3 (by rfl) ?ylk3 ?rlk3
                case ylk3 => (intro w' hG; go_simp; refine (h4.out _).mono ?_; rintro e w'' ⟨rfl, U⟩; refine ⟨?_, hG.trans U⟩; with_reducible rfl)
                simp only [Act.put, List.setIfInBounds_toArray, List.set_cons_zero, List.set_cons_succ]
                refine kept_want ?vlk4 (by rfl) ?ylk4 ?rlk4
                case ylk4 => (intro w' hG; obtain ⟨q0, q1⟩ := qSlk.out w' hG; clear hG; obtain ⟨z1, z2, z3⟩ := Z1.out; go_simp; try (with_reducible rfl))
                simp only [Act.put, List.setIfInBounds_toArray, List.set_cons_zero, List.set_cons_succ]
                refine kept_want ?vlk5 (by rfl) ?ylk5 ?rlk5
                case ylk5 => (intro w' hG; obtain ⟨q0, q1⟩ := qSlk.out w' hG; clear hG; obtain ⟨z1, z2, z3⟩ := Z1.out; go_simp; try (with_reducible rfl))
                simp only [Act.put, List.setIfInBounds_toArray, List.set_cons_zero, List.set_cons_succ]
                refine kept_want ?vlk6 (by rfl) ?ylk6 ?rlk6
                case ylk6 => (intro w' hG; obtain ⟨q0, q1⟩ := qSlk.out w' hG; clear hG; obtain ⟨z1, z2, z3⟩ := Z1.out; go_simp; try (with_reducible rfl))
                simp only [Act.put, List.setIfInBounds_toArray, List.set_cons_zero, List.set_cons_succ]
                refine kept_want ?vlk7 (by rfl) ?ylk7 ?rlk7
                case ylk7 => (intro w' hG; go_simp; refine (h2.out _).mono ?_; rintro e w'' ⟨rfl, U⟩; refine ⟨?_, hG.trans U⟩; with_reducible rfl)
                simp only [Act.put, List.setIfInBounds_toArray, List.set_cons_zero, List.set_cons_succ]
                refine kept_want ?vlk8 (by rfl) ?ylk8 ?rlk8
                case ylk8 => (intro w' hG; obtain ⟨q0, q1⟩ := qSlk.out w' hG; clear hG; obtain ⟨z1, z2, z3⟩ := Z1.out; go_simp; try (with_reducible rfl))
                simp only [Act.put, List.setIfInBounds_toArray, List.set_cons_zero, List.set_cons_succ]
                refine kept_want ?vlk9 (by rfl) ?ylk9 ?rlk9
                case ylk9 => (intro w' hG; obtain ⟨q0, q1⟩ := qSlk.out w' hG; clear hG; obtain ⟨z1, z2, z3⟩ := Z1.out; go_simp; try (with_reducible rfl))
                simp only [Act.put, List.setIfInBounds_toArray, List.set_cons_zero, List.set_cons_succ]
                refine kept_nil ?_
                intro V hV
                clear qSlk
                have dv := dd.grew hV
                obtain ⟨d0, d1, d2, d3⟩ := dv
                have hY := hX.trans hV
                clear dd hX hV
                have z4 := Z2.out
                go_wp2_with (first | (go_at_call 35; go_fit (hP.out _); rintro e w1 ⟨rfl, rfl⟩) | (go_at_call 33; go_fit (hp2.out _); rintro e w1 ⟨rfl, G9⟩) | fail)
                refine ⟨⟨0 + 1, hlt, by simp, congrArg Value.string hup.out, hcur.out, hY.trans G9⟩, ?_⟩
                first | exact meas_up hlt | exact zmeas0 hlt | exact zmeas1 hlt
              · have hne := not_empty hT
                have HF : Hid _ := hNone.out (0) hlt (by rw [ceOk_zero, hx, good_bytes hz2i hT])
                clear hb
                go_upto_region 8 with (fail)
                have hW : Grew w (wr.alloc (.cells #[.int .i64 K, .int .i64 (z : Int), .int .i64 Q, .string T] 68)) := hG.alloc _ _
                have ca := cell_new4 wr (.int .i64 K) (.int .i64 (z : Int)) (.int .i64 Q) (.string T) 68
                have cp := PV.out _ ((Grew.refl wr).alloc (#[.int .i64 K, .int .i64 (z : Int), .int .i64 Q, .string T]) 68)
                generalize wr.alloc (.cells #[.int .i64 K, .int .i64 (z : Int), .int .i64 Q, .string T] 68) = W at *
                generalize wr.heap.size = q at *
                obtain ⟨d0, d1, d2, d3⟩ := ca
                clear e0 e1 e2 e3 hG
                go_quiet (first
                  | (go_at_call 34; exact Calls.quiet_of_same (hK.out _))
                  | fail)
                go_upto_region 10 with (fail)
                have hX : Grew w (W.drewN nq) := hW.drewN _
                have dd : C4 (W.drewN nq) q K (z : Int) Q T := ⟨d0, d1, d2, d3⟩
                clear d0 d1 d2 d3 hW cp
                generalize W.drewN nq = X at *
                have qSll : Hid (∀ w', Grew X w' → (w'.cell? ⟨q, 0, none⟩ = some (.int .i64 K) ∧ w'.cell? ⟨q, 1, none⟩ = some (.int .i64 (z : Int)))) := fun w' g => ⟨g.cell dd.1, g.cell dd.2.1⟩
                refine kept_region X (by kernel_rfl) (by kernel_rfl) ?_
                refine kept_want ?vll0 (by rfl) ?yll0 ?rll0
                case yll0 => (intro w' hG; obtain ⟨q0, q1⟩ := qSll.out w' hG; clear hG; obtain ⟨z1, z2, z3⟩ := Z1.out; go_simp; try (with_reducible rfl))
                simp only [Act.put, List.setIfInBounds_toArray, List.set_cons_zero, List.set_cons_succ]
                refine kept_want ?vll1 (by rfl) ?yll1 ?rll1
                case yll1 => (intro w' hG; obtain ⟨q0, q1⟩ := qSll.out w' hG; clear hG; obtain ⟨z1, z2, z3⟩ := Z1.out; go_simp; try (with_reducible rfl))
                simp only [Act.put, List.setIfInBounds_toArray, List.set_cons_zero, List.set_cons_succ]
                refine kept_want ?vll2 (by rfl) ?yll2 ?rll2
                case yll2 => (intro w' hG; obtain ⟨q0, q1⟩ := qSll.out w' hG; clear hG; obtain ⟨z1, z2, z3⟩ := Z1.out; go_simp; try (with_reducible rfl))
                simp only [Act.put, List.setIfInBounds_toArray, List.set_cons_zero, List.set_cons_succ]
                refine kept_want ?vll3 (by rfl) ?yll3 ?rll3
                case yll3 => (intro w' hG; go_simp; refine (h4.out _).mono ?_; rintro e w'' ⟨rfl, U⟩; refine ⟨?_, hG.trans U⟩; with_reducible rfl)
                simp only [Act.put, List.setIfInBounds_toArray, List.set_cons_zero, List.set_cons_succ]
                refine kept_want ?vll4 (by rfl) ?yll4 ?rll4
                case yll4 => (intro w' hG; obtain ⟨q0, q1⟩ := qSll.out w' hG; clear hG; obtain ⟨z1, z2, z3⟩ := Z1.out; go_simp; try (with_reducible rfl))
                simp only [Act.put, List.setIfInBounds_toArray, List.set_cons_zero, List.set_cons_succ]
                refine kept_want ?vll5 (by rfl) ?yll5 ?rll5
                case yll5 => (intro w' hG; obtain ⟨q0, q1⟩ := qSll.out w' hG; clear hG; obtain ⟨z1, z2, z3⟩ := Z1.out; go_simp; try (with_reducible rfl))
                simp only [Act.put, List.setIfInBounds_toArray, List.set_cons_zero, List.set_cons_succ]
                refine kept_want ?vll6 (by rfl) ?yll6 ?rll6
                case yll6 => (intro w' hG; obtain ⟨q0, q1⟩ := qSll.out w' hG; clear hG; obtain ⟨z1, z2, z3⟩ := Z1.out; go_simp; try (with_reducible rfl))
                simp only [Act.put, List.setIfInBounds_toArray, List.set_cons_zero, List.set_cons_succ]
                refine kept_want ?vll7 (by rfl) ?yll7 ?rll7
                case yll7 => (intro w' hG; go_simp; refine (h2.out _).mono ?_; rintro e w'' ⟨rfl, U⟩; refine ⟨?_, hG.trans U⟩; with_reducible rfl)
                simp only [Act.put, List.setIfInBounds_toArray, List.set_cons_zero, List.set_cons_succ]
                refine kept_want ?vll8 (by rfl) ?yll8 ?rll8
                case yll8 => (intro w' hG; obtain ⟨q0, q1⟩ := qSll.out w' hG; clear hG; obtain ⟨z1, z2, z3⟩ := Z1.out; go_simp; try (with_reducible rfl))
                simp only [Act.put, List.setIfInBounds_toArray, List.set_cons_zero, List.set_cons_succ]
                refine kept_want ?vll9 (by rfl) ?yll9 ?rll9
                case yll9 => (intro w' hG; obtain ⟨q0, q1⟩ := qSll.out w' hG; clear hG; obtain ⟨z1, z2, z3⟩ := Z1.out; go_simp; try (with_reducible rfl))
                simp only [Act.put, List.setIfInBounds_toArray, List.set_cons_zero, List.set_cons_succ]
                refine kept_nil ?_
                intro V hV
                clear qSll
                have dv := dd.grew hV
                obtain ⟨d0, d1, d2, d3⟩ := dv
                have hY := hX.trans hV
                clear dd hX hV
                go_wp2_with (first | (go_at_call 35; go_fit (hP.out _); rintro e w1 ⟨rfl, rfl⟩) | fail)
                go_ret2
                exact ⟨HF.out, hY⟩
      | succ p =>
        have hpv := hcs p (by rw [hNN.out]; omega)
        obtain ⟨M, hM0⟩ : ∃ M, (C.getD p noCe).key = M := ⟨_, rfl⟩
        have PV : Hid (∀ V, Grew wr V → V.cell? ⟨b, off + p * 4, none⟩ = some (.int .i64 M)) := fun V g => by
          have := ((hpv.grew hG).grew g).1
          rw [hM0] at this
          exact this
        have hp0 : (0 : Int) < (p : Int) + 1 := by omega
        have hpn : (p : Int) < n := by omega
        have hp00 : (0 : Int) ≤ p := by omega
        have hp01 : (0 : Int) ≤ (p : Int) + 1 := by omega
        clear hcs hpv
        cases hkb : keyB K with
        | false =>
          rw [hkb] at hK
          have HF : Hid _ := hNone.out (p + 1) hlt (by rw [ceOk_succ, hx, good_key hkb]; rfl)
          clear hb
          go_upto_region 8 with (fail)
          have hW : Grew w (wr.alloc (.cells #[.int .i64 K, .int .i64 Z, .int .i64 Q, .string T] 68)) := hG.alloc _ _
          have ca := cell_new4 wr (.int .i64 K) (.int .i64 Z) (.int .i64 Q) (.string T) 68
          have cp := PV.out _ ((Grew.refl wr).alloc (#[.int .i64 K, .int .i64 Z, .int .i64 Q, .string T]) 68)
          generalize wr.alloc (.cells #[.int .i64 K, .int .i64 Z, .int .i64 Q, .string T] 68) = W at *
          generalize wr.heap.size = q at *
          obtain ⟨d0, d1, d2, d3⟩ := ca
          clear e0 e1 e2 e3 hG
          go_quiet (first
            | (go_at_call 34; exact Calls.quiet_of_same (hK.out _))
            | fail)
          go_wp2_with (fail)
          go_ret2
          exact ⟨HF.out, hW.drewN _⟩
        | true =>
          rw [hkb] at hK
          have hk1 := (keyB_iff K).1 hkb
          by_cases hlt2 : M < K
          · have hle : ¬ K ≤ M := by omega
            by_cases hz0 : Z < 0
            · have HF : Hid _ := hNone.out (p + 1) hlt (by rw [ceOk_succ, hx, good_size (.inl hz0)]; rfl)
              clear hb
              go_upto_region 8 with (fail)
              have hW : Grew w (wr.alloc (.cells #[.int .i64 K, .int .i64 Z, .int .i64 Q, .string T] 68)) := hG.alloc _ _
              have ca := cell_new4 wr (.int .i64 K) (.int .i64 Z) (.int .i64 Q) (.string T) 68
              have cp := PV.out _ ((Grew.refl wr).alloc (#[.int .i64 K, .int .i64 Z, .int .i64 Q, .string T]) 68)
              generalize wr.alloc (.cells #[.int .i64 K, .int .i64 Z, .int .i64 Q, .string T] 68) = W at *
              generalize wr.heap.size = q at *
              obtain ⟨d0, d1, d2, d3⟩ := ca
              clear e0 e1 e2 e3 hG
              go_quiet (first
                | (go_at_call 34; exact Calls.quiet_of_same (hK.out _))
                | fail)
              go_wp2_with (fail)
              go_ret2
              exact ⟨HF.out, hW.drewN _⟩
            by_cases hz9 : 900 < Z
            · have HF : Hid _ := hNone.out (p + 1) hlt (by rw [ceOk_succ, hx, good_size (.inr hz9)]; rfl)
              clear hb
              go_upto_region 8 with (fail)
              have hW : Grew w (wr.alloc (.cells #[.int .i64 K, .int .i64 Z, .int .i64 Q, .string T] 68)) := hG.alloc _ _
              have ca := cell_new4 wr (.int .i64 K) (.int .i64 Z) (.int .i64 Q) (.string T) 68
              have cp := PV.out _ ((Grew.refl wr).alloc (#[.int .i64 K, .int .i64 Z, .int .i64 Q, .string T]) 68)
              generalize wr.alloc (.cells #[.int .i64 K, .int .i64 Z, .int .i64 Q, .string T] 68) = W at *
              generalize wr.heap.size = q at *
              obtain ⟨d0, d1, d2, d3⟩ := ca
              clear e0 e1 e2 e3 hG
              go_quiet (first
                | (go_at_call 34; exact Calls.quiet_of_same (hK.out _))
                | fail)
              go_wp2_with (fail)
              go_ret2
              exact ⟨HF.out, hW.drewN _⟩
            obtain ⟨z, rfl⟩ := Int.eq_ofNat_of_zero_le (a := Z) (by omega)
            have h4 : Hid (∀ W, Calls Try.prog 33 #[.int .i64 K, .int .i64 4] W fun e w' => e = .returned (.string (txt (digs K.toNat 4))) ∧ Grew W w') := fun W => by
              have := refbig_any K.toNat 4 (by omega) (by omega) W
              rw [show ((K.toNat : Nat) : Int) = K by omega] at this
              exact this
            have h2 : Hid (∀ W, Calls Try.prog 33 #[.int .i64 (z : Int), .int .i64 2] W fun e w' => e = .returned (.string (txt (digs z 2))) ∧ Grew W w') := fun W => refbig_any z 2 (by omega) (by omega) W
            clear y2
            have y2 : (txt (digs z 2)).size = 2 := by rw [txt_size, digs_len]
            by_cases hz2 : z ≤ 24
            · have hz2i : (z : Int) ≤ 24 := by omega
              by_cases hq : Q = 0
              · subst hq
                by_cases hT : T.size = z
                · have hTi : (T.size : Int) = z := by omega
                  have hup : Hid (txt (leafH C (p + 1)) ++ txt (digs K.toNat 4) ++ txt (digs z 2) ++ T = txt (leafH C (p + 1 + 1))) := by
                    have e : txt (leafH C (p + 1)) ++ txt (digs K.toNat 4) ++ txt (digs z 2) ++ txt T.data.toList = txt (leafH C (p + 1 + 1)) := by
                      rw [leafH_up C (p + 1) (by rw [hNN.out]; exact hlt), hx, txt_append, txt_append, txt_append]
                      simp [ceB, hz2i]
                    rw [txt_list] at e
                    exact e
                  have hcur : Hid (∀ j, j < p + 1 + 1 → ceOk C j = true) := fun j hj => by
                    by_cases e : j = p + 1
                    · subst e
                      rw [ceOk_succ, hx, hM0, good_in hkb (Int.natCast_nonneg z) hz2i rfl hTi]
                      simp [hlt2]
                    · exact hok j (by omega)
                  have Z2 : Hid (¬ 9223372036854775807 < (txt (leafH C (p + 1))).size + 4 + 2 + z) := (by omega : ¬ 9223372036854775807 < (txt (leafH C (p + 1))).size + 4 + 2 + z)
                  clear hb
                  go_upto_region 8 with (fail)
                  have hW : Grew w (wr.alloc (.cells #[.int .i64 K, .int .i64 (z : Int), .int .i64 0, .string T] 68)) := hG.alloc _ _
                  have ca := cell_new4 wr (.int .i64 K) (.int .i64 (z : Int)) (.int .i64 0) (.string T) 68
                  have cp := PV.out _ ((Grew.refl wr).alloc (#[.int .i64 K, .int .i64 (z : Int), .int .i64 0, .string T]) 68)
                  generalize wr.alloc (.cells #[.int .i64 K, .int .i64 (z : Int), .int .i64 0, .string T] 68) = W at *
                  generalize wr.heap.size = q at *
                  obtain ⟨d0, d1, d2, d3⟩ := ca
                  clear e0 e1 e2 e3 hG
                  go_quiet (first
                    | (go_at_call 34; exact Calls.quiet_of_same (hK.out _))
                    | fail)
                  go_upto_region 10 with (fail)
                  have hX : Grew w (W.drewN nq) := hW.drewN _
                  have dd : C4 (W.drewN nq) q K (z : Int) 0 T := ⟨d0, d1, d2, d3⟩
                  clear d0 d1 d2 d3 hW cp
                  generalize W.drewN nq = X at *
                  have qSla : Hid (∀ w', Grew X w' → (w'.cell? ⟨q, 0, none⟩ = some (.int .i64 K) ∧ w'.cell? ⟨q, 1, none⟩ = some (.int .i64 (z : Int)))) := fun w' g => ⟨g.cell dd.1, g.cell dd.2.1⟩
                  refine kept_region X (by kernel_rfl) (by kernel_rfl) ?_
                  refine kept_want ?vla0 (by rfl) ?yla0 ?rla0
                  case yla0 => (intro w' hG; obtain ⟨q0, q1⟩ := qSla.out w' hG; clear hG; obtain ⟨z1, z2, z3⟩ := Z1.out; go_simp; try (with_reducible rfl))
                  simp only [Act.put, List.setIfInBounds_toArray, List.set_cons_zero, List.set_cons_succ]
                  refine kept_want ?vla1 (by rfl) ?yla1 ?rla1
                  case yla1 => (intro w' hG; obtain ⟨q0, q1⟩ := qSla.out w' hG; clear hG; obtain ⟨z1, z2, z3⟩ := Z1.out; go_simp; try (with_reducible rfl))
                  simp only [Act.put, List.setIfInBounds_toArray, List.set_cons_zero, List.set_cons_succ]
                  refine kept_want ?vla2 (by rfl) ?yla2 ?rla2
                  case yla2 => (intro w' hG; obtain ⟨q0, q1⟩ := qSla.out w' hG; clear hG; obtain ⟨z1, z2, z3⟩ := Z1.out; go_simp; try (with_reducible rfl))
                  simp only [Act.put, List.setIfInBounds_toArray, List.set_cons_zero, List.set_cons_succ]
                  refine kept_want ?vla3 (by rfl) ?yla3 ?rla3
                  case yla3 => (intro w' hG; go_simp; refine (h4.out _).mono ?_; rintro e w'' ⟨rfl, U⟩; refine ⟨?_, hG.trans U⟩; with_reducible rfl)
                  simp only [Act.put, List.setIfInBounds_toArray, List.set_cons_zero, List.set_cons_succ]
                  refine kept_want ?vla4 (by rfl) ?yla4 ?rla4
                  case yla4 => (intro w' hG; obtain ⟨q0, q1⟩ := qSla.out w' hG; clear hG; obtain ⟨z1, z2, z3⟩ := Z1.out; go_simp; try (with_reducible rfl))
                  simp only [Act.put, List.setIfInBounds_toArray, List.set_cons_zero, List.set_cons_succ]
                  refine kept_want ?vla5 (by rfl) ?yla5 ?rla5
                  case yla5 => (intro w' hG; obtain ⟨q0, q1⟩ := qSla.out w' hG; clear hG; obtain ⟨z1, z2, z3⟩ := Z1.out; go_simp; try (with_reducible rfl))
                  simp only [Act.put, List.setIfInBounds_toArray, List.set_cons_zero, List.set_cons_succ]
                  refine kept_want ?vla6 (by rfl) ?yla6 ?rla6
                  case yla6 => (intro w' hG; obtain ⟨q0, q1⟩ := qSla.out w' hG; clear hG; obtain ⟨z1, z2, z3⟩ := Z1.out; go_simp; try (with_reducible rfl))
                  simp only [Act.put, List.setIfInBounds_toArray, List.set_cons_zero, List.set_cons_succ]
                  refine kept_want ?vla7 (by rfl) ?yla7 ?rla7
                  case yla7 => (intro w' hG; go_simp; refine (h2.out _).mono ?_; rintro e w'' ⟨rfl, U⟩; refine ⟨?_, hG.trans U⟩; with_reducible rfl)
                  simp only [Act.put, List.setIfInBounds_toArray, List.set_cons_zero, List.set_cons_succ]
                  refine kept_want ?vla8 (by rfl) ?yla8 ?rla8
                  case yla8 => (intro w' hG; obtain ⟨q0, q1⟩ := qSla.out w' hG; clear hG; obtain ⟨z1, z2, z3⟩ := Z1.out; go_simp; try (with_reducible rfl))
                  simp only [Act.put, List.setIfInBounds_toArray, List.set_cons_zero, List.set_cons_succ]
                  refine kept_want ?vla9 (by rfl) ?yla9 ?rla9
                  case yla9 => (intro w' hG; obtain ⟨q0, q1⟩ := qSla.out w' hG; clear hG; obtain ⟨z1, z2, z3⟩ := Z1.out; go_simp; try (with_reducible rfl))
                  simp only [Act.put, List.setIfInBounds_toArray, List.set_cons_zero, List.set_cons_succ]
                  refine kept_nil ?_
                  intro V hV
                  clear qSla
                  have dv := dd.grew hV
                  obtain ⟨d0, d1, d2, d3⟩ := dv
                  have hY := hX.trans hV
                  clear dd hX hV
                  have z4 := Z2.out
                  go_wp2_with (fail)
                  refine ⟨⟨p + 1 + 1, hlt, by simp, congrArg Value.string hup.out, hcur.out, hY⟩, ?_⟩
                  first | exact meas_up hlt | exact zmeas0 hlt | exact zmeas1 hlt
                · have hTi : ¬ (T.size : Int) = z := by omega
                  have HF : Hid _ := hNone.out (p + 1) hlt (by rw [ceOk_succ, hx, good_len hz2i hTi]; rfl)
                  clear hb
                  go_upto_region 8 with (fail)
                  have hW : Grew w (wr.alloc (.cells #[.int .i64 K, .int .i64 (z : Int), .int .i64 0, .string T] 68)) := hG.alloc _ _
                  have ca := cell_new4 wr (.int .i64 K) (.int .i64 (z : Int)) (.int .i64 0) (.string T) 68
                  have cp := PV.out _ ((Grew.refl wr).alloc (#[.int .i64 K, .int .i64 (z : Int), .int .i64 0, .string T]) 68)
                  generalize wr.alloc (.cells #[.int .i64 K, .int .i64 (z : Int), .int .i64 0, .string T] 68) = W at *
                  generalize wr.heap.size = q at *
                  obtain ⟨d0, d1, d2, d3⟩ := ca
                  clear e0 e1 e2 e3 hG
                  go_quiet (first
                    | (go_at_call 34; exact Calls.quiet_of_same (hK.out _))
                    | fail)
                  go_upto_region 10 with (fail)
                  have hX : Grew w (W.drewN nq) := hW.drewN _
                  have dd : C4 (W.drewN nq) q K (z : Int) 0 T := ⟨d0, d1, d2, d3⟩
                  clear d0 d1 d2 d3 hW cp
                  generalize W.drewN nq = X at *
                  have qSlb : Hid (∀ w', Grew X w' → (w'.cell? ⟨q, 0, none⟩ = some (.int .i64 K) ∧ w'.cell? ⟨q, 1, none⟩ = some (.int .i64 (z : Int)))) := fun w' g => ⟨g.cell dd.1, g.cell dd.2.1⟩
                  refine kept_region X (by kernel_rfl) (by kernel_rfl) ?_
                  refine kept_want ?vlb0 (by rfl) ?ylb0 ?rlb0
                  case ylb0 => (intro w' hG; obtain ⟨q0, q1⟩ := qSlb.out w' hG; clear hG; obtain ⟨z1, z2, z3⟩ := Z1.out; go_simp; try (with_reducible rfl))
                  simp only [Act.put, List.setIfInBounds_toArray, List.set_cons_zero, List.set_cons_succ]
                  refine kept_want ?vlb1 (by rfl) ?ylb1 ?rlb1
                  case ylb1 => (intro w' hG; obtain ⟨q0, q1⟩ := qSlb.out w' hG; clear hG; obtain ⟨z1, z2, z3⟩ := Z1.out; go_simp; try (with_reducible rfl))
                  simp only [Act.put, List.setIfInBounds_toArray, List.set_cons_zero, List.set_cons_succ]
                  refine kept_want ?vlb2 (by rfl) ?ylb2 ?rlb2
                  case ylb2 => (intro w' hG; obtain ⟨q0, q1⟩ := qSlb.out w' hG; clear hG; obtain ⟨z1, z2, z3⟩ := Z1.out; go_simp; try (with_reducible rfl))
                  simp only [Act.put, List.setIfInBounds_toArray, List.set_cons_zero, List.set_cons_succ]
                  refine kept_want ?vlb3 (by rfl) ?ylb3 ?rlb3
                  case ylb3 => (intro w' hG; go_simp; refine (h4.out _).mono ?_; rintro e w'' ⟨rfl, U⟩; refine ⟨?_, hG.trans U⟩; with_reducible rfl)
                  simp only [Act.put, List.setIfInBounds_toArray, List.set_cons_zero, List.set_cons_succ]
                  refine kept_want ?vlb4 (by rfl) ?ylb4 ?rlb4
                  case ylb4 => (intro w' hG; obtain ⟨q0, q1⟩ := qSlb.out w' hG; clear hG; obtain ⟨z1, z2, z3⟩ := Z1.out; go_simp; try (with_reducible rfl))
                  simp only [Act.put, List.setIfInBounds_toArray, List.set_cons_zero, List.set_cons_succ]
                  refine kept_want ?vlb5 (by rfl) ?ylb5 ?rlb5
                  case ylb5 => (intro w' hG; obtain ⟨q0, q1⟩ := qSlb.out w' hG; clear hG; obtain ⟨z1, z2, z3⟩ := Z1.out; go_simp; try (with_reducible rfl))
                  simp only [Act.put, List.setIfInBounds_toArray, List.set_cons_zero, List.set_cons_succ]
                  refine kept_want ?vlb6 (by rfl) ?ylb6 ?rlb6
                  case ylb6 => (intro w' hG; obtain ⟨q0, q1⟩ := qSlb.out w' hG; clear hG; obtain ⟨z1, z2, z3⟩ := Z1.out; go_simp; try (with_reducible rfl))
                  simp only [Act.put, List.setIfInBounds_toArray, List.set_cons_zero, List.set_cons_succ]
                  refine kept_want ?vlb7 (by rfl) ?ylb7 ?rlb7
                  case ylb7 => (intro w' hG; go_simp; refine (h2.out _).mono ?_; rintro e w'' ⟨rfl, U⟩; refine ⟨?_, hG.trans U⟩; with_reducible rfl)
                  simp only [Act.put, List.setIfInBounds_toArray, List.set_cons_zero, List.set_cons_succ]
                  refine kept_want ?vlb8 (by rfl) ?ylb8 ?rlb8
                  case ylb8 => (intro w' hG; obtain ⟨q0, q1⟩ := qSlb.out w' hG; clear hG; obtain ⟨z1, z2, z3⟩ := Z1.out; go_simp; try (with_reducible rfl))
                  simp only [Act.put, List.setIfInBounds_toArray, List.set_cons_zero, List.set_cons_succ]
                  refine kept_want ?vlb9 (by rfl) ?ylb9 ?rlb9
                  case ylb9 => (intro w' hG; obtain ⟨q0, q1⟩ := qSlb.out w' hG; clear hG; obtain ⟨z1, z2, z3⟩ := Z1.out; go_simp; try (with_reducible rfl))
                  simp only [Act.put, List.setIfInBounds_toArray, List.set_cons_zero, List.set_cons_succ]
                  refine kept_nil ?_
                  intro V hV
                  clear qSlb
                  have dv := dd.grew hV
                  obtain ⟨d0, d1, d2, d3⟩ := dv
                  have hY := hX.trans hV
                  clear dd hX hV
                  go_wp2_with (first | (go_at_call 35; go_fit (hP.out _); rintro e w1 ⟨rfl, rfl⟩) | fail)
                  go_ret2
                  exact ⟨HF.out, hY⟩
              · have HF : Hid _ := hNone.out (p + 1) hlt (by rw [ceOk_succ, hx, good_page hz2i hq]; rfl)
                clear hb
                go_upto_region 8 with (fail)
                have hW : Grew w (wr.alloc (.cells #[.int .i64 K, .int .i64 (z : Int), .int .i64 Q, .string T] 68)) := hG.alloc _ _
                have ca := cell_new4 wr (.int .i64 K) (.int .i64 (z : Int)) (.int .i64 Q) (.string T) 68
                have cp := PV.out _ ((Grew.refl wr).alloc (#[.int .i64 K, .int .i64 (z : Int), .int .i64 Q, .string T]) 68)
                generalize wr.alloc (.cells #[.int .i64 K, .int .i64 (z : Int), .int .i64 Q, .string T] 68) = W at *
                generalize wr.heap.size = q at *
                obtain ⟨d0, d1, d2, d3⟩ := ca
                clear e0 e1 e2 e3 hG
                go_quiet (first
                  | (go_at_call 34; exact Calls.quiet_of_same (hK.out _))
                  | fail)
                go_upto_region 10 with (fail)
                have hX : Grew w (W.drewN nq) := hW.drewN _
                have dd : C4 (W.drewN nq) q K (z : Int) Q T := ⟨d0, d1, d2, d3⟩
                clear d0 d1 d2 d3 hW cp
                generalize W.drewN nq = X at *
                have qSlc : Hid (∀ w', Grew X w' → (w'.cell? ⟨q, 0, none⟩ = some (.int .i64 K) ∧ w'.cell? ⟨q, 1, none⟩ = some (.int .i64 (z : Int)))) := fun w' g => ⟨g.cell dd.1, g.cell dd.2.1⟩
                refine kept_region X (by kernel_rfl) (by kernel_rfl) ?_
                refine kept_want ?vlc0 (by rfl) ?ylc0 ?rlc0
                case ylc0 => (intro w' hG; obtain ⟨q0, q1⟩ := qSlc.out w' hG; clear hG; obtain ⟨z1, z2, z3⟩ := Z1.out; go_simp; try (with_reducible rfl))
                simp only [Act.put, List.setIfInBounds_toArray, List.set_cons_zero, List.set_cons_succ]
                refine kept_want ?vlc1 (by rfl) ?ylc1 ?rlc1
                case ylc1 => (intro w' hG; obtain ⟨q0, q1⟩ := qSlc.out w' hG; clear hG; obtain ⟨z1, z2, z3⟩ := Z1.out; go_simp; try (with_reducible rfl))
                simp only [Act.put, List.setIfInBounds_toArray, List.set_cons_zero, List.set_cons_succ]
                refine kept_want ?vlc2 (by rfl) ?ylc2 ?rlc2
                case ylc2 => (intro w' hG; obtain ⟨q0, q1⟩ := qSlc.out w' hG; clear hG; obtain ⟨z1, z2, z3⟩ := Z1.out; go_simp; try (with_reducible rfl))
                simp only [Act.put, List.setIfInBounds_toArray, List.set_cons_zero, List.set_cons_succ]
                refine kept_want ?vlc3 (by rfl) ?ylc3 ?rlc3
                case ylc3 => (intro w' hG; go_simp; refine (h4.out _).mono ?_; rintro e w'' ⟨rfl, U⟩; refine ⟨?_, hG.trans U⟩; with_reducible rfl)
                simp only [Act.put, List.setIfInBounds_toArray, List.set_cons_zero, List.set_cons_succ]
                refine kept_want ?vlc4 (by rfl) ?ylc4 ?rlc4
                case ylc4 => (intro w' hG; obtain ⟨q0, q1⟩ := qSlc.out w' hG; clear hG; obtain ⟨z1, z2, z3⟩ := Z1.out; go_simp; try (with_reducible rfl))
                simp only [Act.put, List.setIfInBounds_toArray, List.set_cons_zero, List.set_cons_succ]
                refine kept_want ?vlc5 (by rfl) ?ylc5 ?rlc5
                case ylc5 => (intro w' hG; obtain ⟨q0, q1⟩ := qSlc.out w' hG; clear hG; obtain ⟨z1, z2, z3⟩ := Z1.out; go_simp; try (with_reducible rfl))
                simp only [Act.put, List.setIfInBounds_toArray, List.set_cons_zero, List.set_cons_succ]
                refine kept_want ?vlc6 (by rfl) ?ylc6 ?rlc6
                case ylc6 => (intro w' hG; obtain ⟨q0, q1⟩ := qSlc.out w' hG; clear hG; obtain ⟨z1, z2, z3⟩ := Z1.out; go_simp; try (with_reducible rfl))
                simp only [Act.put, List.setIfInBounds_toArray, List.set_cons_zero, List.set_cons_succ]
                refine kept_want ?vlc7 (by rfl) ?ylc7 ?rlc7
                case ylc7 => (intro w' hG; go_simp; refine (h2.out _).mono ?_; rintro e w'' ⟨rfl, U⟩; refine ⟨?_, hG.trans U⟩; with_reducible rfl)
                simp only [Act.put, List.setIfInBounds_toArray, List.set_cons_zero, List.set_cons_succ]
                refine kept_want ?vlc8 (by rfl) ?ylc8 ?rlc8
                case ylc8 => (intro w' hG; obtain ⟨q0, q1⟩ := qSlc.out w' hG; clear hG; obtain ⟨z1, z2, z3⟩ := Z1.out; go_simp; try (with_reducible rfl))
                simp only [Act.put, List.setIfInBounds_toArray, List.set_cons_zero, List.set_cons_succ]
                refine kept_want ?vlc9 (by rfl) ?ylc9 ?rlc9
                case ylc9 => (intro w' hG; obtain ⟨q0, q1⟩ := qSlc.out w' hG; clear hG; obtain ⟨z1, z2, z3⟩ := Z1.out; go_simp; try (with_reducible rfl))
                simp only [Act.put, List.setIfInBounds_toArray, List.set_cons_zero, List.set_cons_succ]
                refine kept_nil ?_
                intro V hV
                clear qSlc
                have dv := dd.grew hV
                obtain ⟨d0, d1, d2, d3⟩ := dv
                have hY := hX.trans hV
                clear dd hX hV
                go_wp2_with (first | (go_at_call 35; go_fit (hP.out _); rintro e w1 ⟨rfl, rfl⟩) | fail)
                go_ret2
                exact ⟨HF.out, hY⟩
            · have hz2i : ¬ (z : Int) ≤ 24 := by omega
              cases hpb : pageB Q with
              | false =>
                rw [hpb] at hP
                have HF : Hid _ := hNone.out (p + 1) hlt (by rw [ceOk_succ, hx, good_pageB hz2i hpb]; rfl)
                clear hb
                go_upto_region 8 with (fail)
                have hW : Grew w (wr.alloc (.cells #[.int .i64 K, .int .i64 (z : Int), .int .i64 Q, .string T] 68)) := hG.alloc _ _
                have ca := cell_new4 wr (.int .i64 K) (.int .i64 (z : Int)) (.int .i64 Q) (.string T) 68
                have cp := PV.out _ ((Grew.refl wr).alloc (#[.int .i64 K, .int .i64 (z : Int), .int .i64 Q, .string T]) 68)
                generalize wr.alloc (.cells #[.int .i64 K, .int .i64 (z : Int), .int .i64 Q, .string T] 68) = W at *
                generalize wr.heap.size = q at *
                obtain ⟨d0, d1, d2, d3⟩ := ca
                clear e0 e1 e2 e3 hG
                go_quiet (first
                  | (go_at_call 34; exact Calls.quiet_of_same (hK.out _))
                  | fail)
                go_upto_region 10 with (fail)
                have hX : Grew w (W.drewN nq) := hW.drewN _
                have dd : C4 (W.drewN nq) q K (z : Int) Q T := ⟨d0, d1, d2, d3⟩
                clear d0 d1 d2 d3 hW cp
                generalize W.drewN nq = X at *
                have qSld : Hid (∀ w', Grew X w' → (w'.cell? ⟨q, 0, none⟩ = some (.int .i64 K) ∧ w'.cell? ⟨q, 1, none⟩ = some (.int .i64 (z : Int)))) := fun w' g => ⟨g.cell dd.1, g.cell dd.2.1⟩
                refine kept_region X (by kernel_rfl) (by kernel_rfl) ?_
                refine kept_want ?vld0 (by rfl) ?yld0 ?rld0
                case yld0 => (intro w' hG; obtain ⟨q0, q1⟩ := qSld.out w' hG; clear hG; obtain ⟨z1, z2, z3⟩ := Z1.out; go_simp; try (with_reducible rfl))
                simp only [Act.put, List.setIfInBounds_toArray, List.set_cons_zero, List.set_cons_succ]
                refine kept_want ?vld1 (by rfl) ?yld1 ?rld1
                case yld1 => (intro w' hG; obtain ⟨q0, q1⟩ := qSld.out w' hG; clear hG; obtain ⟨z1, z2, z3⟩ := Z1.out; go_simp; try (with_reducible rfl))
                simp only [Act.put, List.setIfInBounds_toArray, List.set_cons_zero, List.set_cons_succ]
                refine kept_want ?vld2 (by rfl) ?yld2 ?rld2
                case yld2 => (intro w' hG; obtain ⟨q0, q1⟩ := qSld.out w' hG; clear hG; obtain ⟨z1, z2, z3⟩ := Z1.out; go_simp; try (with_reducible rfl))
                simp only [Act.put, List.setIfInBounds_toArray, List.set_cons_zero, List.set_cons_succ]
                refine kept_want ?vld3 (by rfl) ?yld3 ?rld3
                case yld3 => (intro w' hG; go_simp; refine (h4.out _).mono ?_; rintro e w'' ⟨rfl, U⟩; refine ⟨?_, hG.trans U⟩; with_reducible rfl)
                simp only [Act.put, List.setIfInBounds_toArray, List.set_cons_zero, List.set_cons_succ]
                refine kept_want ?vld4 (by rfl) ?yld4 ?rld4
                case yld4 => (intro w' hG; obtain ⟨q0, q1⟩ := qSld.out w' hG; clear hG; obtain ⟨z1, z2, z3⟩ := Z1.out; go_simp; try (with_reducible rfl))
                simp only [Act.put, List.setIfInBounds_toArray, List.set_cons_zero, List.set_cons_succ]
                refine kept_want ?vld5 (by rfl) ?yld5 ?rld5
                case yld5 => (intro w' hG; obtain ⟨q0, q1⟩ := qSld.out w' hG; clear hG; obtain ⟨z1, z2, z3⟩ := Z1.out; go_simp; try (with_reducible rfl))
                simp only [Act.put, List.setIfInBounds_toArray, List.set_cons_zero, List.set_cons_succ]
                refine kept_want ?vld6 (by rfl) ?yld6 ?rld6
                case yld6 => (intro w' hG; obtain ⟨q0, q1⟩ := qSld.out w' hG; clear hG; obtain ⟨z1, z2, z3⟩ := Z1.out; go_simp; try (with_reducible rfl))
                simp only [Act.put, List.setIfInBounds_toArray, List.set_cons_zero, List.set_cons_succ]
                refine kept_want ?vld7 (by rfl) ?yld7 ?rld7
                case yld7 => (intro w' hG; go_simp; refine (h2.out _).mono ?_; rintro e w'' ⟨rfl, U⟩; refine ⟨?_, hG.trans U⟩; with_reducible rfl)
                simp only [Act.put, List.setIfInBounds_toArray, List.set_cons_zero, List.set_cons_succ]
                refine kept_want ?vld8 (by rfl) ?yld8 ?rld8
                case yld8 => (intro w' hG; obtain ⟨q0, q1⟩ := qSld.out w' hG; clear hG; obtain ⟨z1, z2, z3⟩ := Z1.out; go_simp; try (with_reducible rfl))
                simp only [Act.put, List.setIfInBounds_toArray, List.set_cons_zero, List.set_cons_succ]
                refine kept_want ?vld9 (by rfl) ?yld9 ?rld9
                case yld9 => (intro w' hG; obtain ⟨q0, q1⟩ := qSld.out w' hG; clear hG; obtain ⟨z1, z2, z3⟩ := Z1.out; go_simp; try (with_reducible rfl))
                simp only [Act.put, List.setIfInBounds_toArray, List.set_cons_zero, List.set_cons_succ]
                refine kept_nil ?_
                intro V hV
                clear qSld
                have dv := dd.grew hV
                obtain ⟨d0, d1, d2, d3⟩ := dv
                have hY := hX.trans hV
                clear dd hX hV
                go_wp2_with (first | (go_at_call 35; go_fit (hP.out _); rintro e w1 ⟨rfl, rfl⟩) | fail)
                go_ret2
                exact ⟨HF.out, hY⟩
              | true =>
                rw [hpb] at hP
                have hp1 := (pageB_iff Q).1 hpb
                by_cases hT : T = ByteArray.empty
                · subst hT
                  have hp2 : Hid (∀ W, Calls Try.prog 33 #[.int .i64 Q, .int .i64 2] W fun e w' => e = .returned (.string (txt (digs Q.toNat 2))) ∧ Grew W w') := fun W => by
                    have := refbig_any Q.toNat 2 (by omega) (by omega) W
                    rw [show ((Q.toNat : Nat) : Int) = Q by omega] at this
                    exact this
                  have hup : Hid (txt (leafH C (p + 1)) ++ txt (digs K.toNat 4) ++ txt (digs z 2) ++ txt (digs Q.toNat 2) = txt (leafH C (p + 1 + 1))) := by
                    show _ = _
                    rw [leafH_up C (p + 1) (by rw [hNN.out]; exact hlt), hx, txt_append, txt_append, txt_append]
                    simp [ceB, hz2i]
                  have hcur : Hid (∀ j, j < p + 1 + 1 → ceOk C j = true) := fun j hj => by
                    by_cases e : j = p + 1
                    · subst e
                      rw [ceOk_succ, hx, hM0, good_out hkb hz2i (Int.not_lt.1 hz9) hpb rfl]
                      simp [hlt2]
                    · exact hok j (by omega)
                  have y9 : (txt (digs Q.toNat 2)).size = 2 := by rw [txt_size, digs_len]
                  have Z2 : Hid (¬ 9223372036854775807 < (txt (leafH C (p + 1))).size + 4 + 2 + 2) := (by omega : ¬ 9223372036854775807 < (txt (leafH C (p + 1))).size + 4 + 2 + 2)
                  clear hb hp1
                  go_upto_region 8 with (fail)
                  have hW : Grew w (wr.alloc (.cells #[.int .i64 K, .int .i64 (z : Int), .int .i64 Q, .string ByteArray.empty] 68)) := hG.alloc _ _
                  have ca := cell_new4 wr (.int .i64 K) (.int .i64 (z : Int)) (.int .i64 Q) (.string ByteArray.empty) 68
                  have cp := PV.out _ ((Grew.refl wr).alloc (#[.int .i64 K, .int .i64 (z : Int), .int .i64 Q, .string ByteArray.empty]) 68)
                  generalize wr.alloc (.cells #[.int .i64 K, .int .i64 (z : Int), .int .i64 Q, .string ByteArray.empty] 68) = W at *
                  generalize wr.heap.size = q at *
                  obtain ⟨d0, d1, d2, d3⟩ := ca
                  clear e0 e1 e2 e3 hG
                  go_quiet (first
                    | (go_at_call 34; exact Calls.quiet_of_same (hK.out _))
                    | fail)
                  go_upto_region 10 with (fail)
                  have hX : Grew w (W.drewN nq) := hW.drewN _
                  have dd : C4 (W.drewN nq) q K (z : Int) Q ByteArray.empty := ⟨d0, d1, d2, d3⟩
                  clear d0 d1 d2 d3 hW cp
                  generalize W.drewN nq = X at *
                  have qSle : Hid (∀ w', Grew X w' → (w'.cell? ⟨q, 0, none⟩ = some (.int .i64 K) ∧ w'.cell? ⟨q, 1, none⟩ = some (.int .i64 (z : Int)))) := fun w' g => ⟨g.cell dd.1, g.cell dd.2.1⟩
                  refine kept_region X (by kernel_rfl) (by kernel_rfl) ?_
                  refine kept_want ?vle0 (by rfl) ?yle0 ?rle0
                  case yle0 => (intro w' hG; obtain ⟨q0, q1⟩ := qSle.out w' hG; clear hG; obtain ⟨z1, z2, z3⟩ := Z1.out; go_simp; try (with_reducible rfl))
                  simp only [Act.put, List.setIfInBounds_toArray, List.set_cons_zero, List.set_cons_succ]
                  refine kept_want ?vle1 (by rfl) ?yle1 ?rle1
                  case yle1 => (intro w' hG; obtain ⟨q0, q1⟩ := qSle.out w' hG; clear hG; obtain ⟨z1, z2, z3⟩ := Z1.out; go_simp; try (with_reducible rfl))
                  simp only [Act.put, List.setIfInBounds_toArray, List.set_cons_zero, List.set_cons_succ]
                  refine kept_want ?vle2 (by rfl) ?yle2 ?rle2
                  case yle2 => (intro w' hG; obtain ⟨q0, q1⟩ := qSle.out w' hG; clear hG; obtain ⟨z1, z2, z3⟩ := Z1.out; go_simp; try (with_reducible rfl))
                  simp only [Act.put, List.setIfInBounds_toArray, List.set_cons_zero, List.set_cons_succ]
                  refine kept_want ?vle3 (by rfl) ?yle3 ?rle3
                  case yle3 => (intro w' hG; go_simp; refine (h4.out _).mono ?_; rintro e w'' ⟨rfl, U⟩; refine ⟨?_, hG.trans U⟩; with_reducible rfl)
                  simp only [Act.put, List.setIfInBounds_toArray, List.set_cons_zero, List.set_cons_succ]
                  refine kept_want ?vle4 (by rfl) ?yle4 ?rle4
                  case yle4 => (intro w' hG; obtain ⟨q0, q1⟩ := qSle.out w' hG; clear hG; obtain ⟨z1, z2, z3⟩ := Z1.out; go_simp; try (with_reducible rfl))
                  simp only [Act.put, List.setIfInBounds_toArray, List.set_cons_zero, List.set_cons_succ]
                  refine kept_want ?vle5 (by rfl) ?yle5 ?rle5
                  case yle5 => (intro w' hG; obtain ⟨q0, q1⟩ := qSle.out w' hG; clear hG; obtain ⟨z1, z2, z3⟩ := Z1.out; go_simp; try (with_reducible rfl))
                  simp only [Act.put, List.setIfInBounds_toArray, List.set_cons_zero, List.set_cons_succ]
                  refine kept_want ?vle6 (by rfl) ?yle6 ?rle6
                  case yle6 => (intro w' hG; obtain ⟨q0, q1⟩ := qSle.out w' hG; clear hG; obtain ⟨z1, z2, z3⟩ := Z1.out; go_simp; try (with_reducible rfl))
                  simp only [Act.put, List.setIfInBounds_toArray, List.set_cons_zero, List.set_cons_succ]
                  refine kept_want ?vle7 (by rfl) ?yle7 ?rle7
                  case yle7 => (intro w' hG; go_simp; refine (h2.out _).mono ?_; rintro e w'' ⟨rfl, U⟩; refine ⟨?_, hG.trans U⟩; with_reducible rfl)
                  simp only [Act.put, List.setIfInBounds_toArray, List.set_cons_zero, List.set_cons_succ]
                  refine kept_want ?vle8 (by rfl) ?yle8 ?rle8
                  case yle8 => (intro w' hG; obtain ⟨q0, q1⟩ := qSle.out w' hG; clear hG; obtain ⟨z1, z2, z3⟩ := Z1.out; go_simp; try (with_reducible rfl))
                  simp only [Act.put, List.setIfInBounds_toArray, List.set_cons_zero, List.set_cons_succ]
                  refine kept_want ?vle9 (by rfl) ?yle9 ?rle9
                  case yle9 => (intro w' hG; obtain ⟨q0, q1⟩ := qSle.out w' hG; clear hG; obtain ⟨z1, z2, z3⟩ := Z1.out; go_simp; try (with_reducible rfl))
                  simp only [Act.put, List.setIfInBounds_toArray, List.set_cons_zero, List.set_cons_succ]
                  refine kept_nil ?_
                  intro V hV
                  clear qSle
                  have dv := dd.grew hV
                  obtain ⟨d0, d1, d2, d3⟩ := dv
                  have hY := hX.trans hV
                  clear dd hX hV
                  have z4 := Z2.out
                  go_wp2_with (first | (go_at_call 35; go_fit (hP.out _); rintro e w1 ⟨rfl, rfl⟩) | (go_at_call 33; go_fit (hp2.out _); rintro e w1 ⟨rfl, G9⟩) | fail)
                  refine ⟨⟨p + 1 + 1, hlt, by simp, congrArg Value.string hup.out, hcur.out, hY.trans G9⟩, ?_⟩
                  first | exact meas_up hlt | exact zmeas0 hlt | exact zmeas1 hlt
                · have hne := not_empty hT
                  have HF : Hid _ := hNone.out (p + 1) hlt (by rw [ceOk_succ, hx, good_bytes hz2i hT]; rfl)
                  clear hb
                  go_upto_region 8 with (fail)
                  have hW : Grew w (wr.alloc (.cells #[.int .i64 K, .int .i64 (z : Int), .int .i64 Q, .string T] 68)) := hG.alloc _ _
                  have ca := cell_new4 wr (.int .i64 K) (.int .i64 (z : Int)) (.int .i64 Q) (.string T) 68
                  have cp := PV.out _ ((Grew.refl wr).alloc (#[.int .i64 K, .int .i64 (z : Int), .int .i64 Q, .string T]) 68)
                  generalize wr.alloc (.cells #[.int .i64 K, .int .i64 (z : Int), .int .i64 Q, .string T] 68) = W at *
                  generalize wr.heap.size = q at *
                  obtain ⟨d0, d1, d2, d3⟩ := ca
                  clear e0 e1 e2 e3 hG
                  go_quiet (first
                    | (go_at_call 34; exact Calls.quiet_of_same (hK.out _))
                    | fail)
                  go_upto_region 10 with (fail)
                  have hX : Grew w (W.drewN nq) := hW.drewN _
                  have dd : C4 (W.drewN nq) q K (z : Int) Q T := ⟨d0, d1, d2, d3⟩
                  clear d0 d1 d2 d3 hW cp
                  generalize W.drewN nq = X at *
                  have qSlf : Hid (∀ w', Grew X w' → (w'.cell? ⟨q, 0, none⟩ = some (.int .i64 K) ∧ w'.cell? ⟨q, 1, none⟩ = some (.int .i64 (z : Int)))) := fun w' g => ⟨g.cell dd.1, g.cell dd.2.1⟩
                  refine kept_region X (by kernel_rfl) (by kernel_rfl) ?_
                  refine kept_want ?vlf0 (by rfl) ?ylf0 ?rlf0
                  case ylf0 => (intro w' hG; obtain ⟨q0, q1⟩ := qSlf.out w' hG; clear hG; obtain ⟨z1, z2, z3⟩ := Z1.out; go_simp; try (with_reducible rfl))
                  simp only [Act.put, List.setIfInBounds_toArray, List.set_cons_zero, List.set_cons_succ]
                  refine kept_want ?vlf1 (by rfl) ?ylf1 ?rlf1
                  case ylf1 => (intro w' hG; obtain ⟨q0, q1⟩ := qSlf.out w' hG; clear hG; obtain ⟨z1, z2, z3⟩ := Z1.out; go_simp; try (with_reducible rfl))
                  simp only [Act.put, List.setIfInBounds_toArray, List.set_cons_zero, List.set_cons_succ]
                  refine kept_want ?vlf2 (by rfl) ?ylf2 ?rlf2
                  case ylf2 => (intro w' hG; obtain ⟨q0, q1⟩ := qSlf.out w' hG; clear hG; obtain ⟨z1, z2, z3⟩ := Z1.out; go_simp; try (with_reducible rfl))
                  simp only [Act.put, List.setIfInBounds_toArray, List.set_cons_zero, List.set_cons_succ]
                  refine kept_want ?vlf3 (by rfl) ?ylf3 ?rlf3
                  case ylf3 => (intro w' hG; go_simp; refine (h4.out _).mono ?_; rintro e w'' ⟨rfl, U⟩; refine ⟨?_, hG.trans U⟩; with_reducible rfl)
                  simp only [Act.put, List.setIfInBounds_toArray, List.set_cons_zero, List.set_cons_succ]
                  refine kept_want ?vlf4 (by rfl) ?ylf4 ?rlf4
                  case ylf4 => (intro w' hG; obtain ⟨q0, q1⟩ := qSlf.out w' hG; clear hG; obtain ⟨z1, z2, z3⟩ := Z1.out; go_simp; try (with_reducible rfl))
                  simp only [Act.put, List.setIfInBounds_toArray, List.set_cons_zero, List.set_cons_succ]
                  refine kept_want ?vlf5 (by rfl) ?ylf5 ?rlf5
                  case ylf5 => (intro w' hG; obtain ⟨q0, q1⟩ := qSlf.out w' hG; clear hG; obtain ⟨z1, z2, z3⟩ := Z1.out; go_simp; try (with_reducible rfl))
                  simp only [Act.put, List.setIfInBounds_toArray, List.set_cons_zero, List.set_cons_succ]
                  refine kept_want ?vlf6 (by rfl) ?ylf6 ?rlf6
                  case ylf6 => (intro w' hG; obtain ⟨q0, q1⟩ := qSlf.out w' hG; clear hG; obtain ⟨z1, z2, z3⟩ := Z1.out; go_simp; try (with_reducible rfl))
                  simp only [Act.put, List.setIfInBounds_toArray, List.set_cons_zero, List.set_cons_succ]
                  refine kept_want ?vlf7 (by rfl) ?ylf7 ?rlf7
                  case ylf7 => (intro w' hG; go_simp; refine (h2.out _).mono ?_; rintro e w'' ⟨rfl, U⟩; refine ⟨?_, hG.trans U⟩; with_reducible rfl)
                  simp only [Act.put, List.setIfInBounds_toArray, List.set_cons_zero, List.set_cons_succ]
                  refine kept_want ?vlf8 (by rfl) ?ylf8 ?rlf8
                  case ylf8 => (intro w' hG; obtain ⟨q0, q1⟩ := qSlf.out w' hG; clear hG; obtain ⟨z1, z2, z3⟩ := Z1.out; go_simp; try (with_reducible rfl))
                  simp only [Act.put, List.setIfInBounds_toArray, List.set_cons_zero, List.set_cons_succ]
                  refine kept_want ?vlf9 (by rfl) ?ylf9 ?rlf9
                  case ylf9 => (intro w' hG; obtain ⟨q0, q1⟩ := qSlf.out w' hG; clear hG; obtain ⟨z1, z2, z3⟩ := Z1.out; go_simp; try (with_reducible rfl))
                  simp only [Act.put, List.setIfInBounds_toArray, List.set_cons_zero, List.set_cons_succ]
                  refine kept_nil ?_
                  intro V hV
                  clear qSlf
                  have dv := dd.grew hV
                  obtain ⟨d0, d1, d2, d3⟩ := dv
                  have hY := hX.trans hV
                  clear dd hX hV
                  go_wp2_with (first | (go_at_call 35; go_fit (hP.out _); rintro e w1 ⟨rfl, rfl⟩) | fail)
                  go_ret2
                  exact ⟨HF.out, hY⟩
          · have hle : K ≤ M := by omega
            have HF : Hid _ := hNone.out (p + 1) hlt (by rw [ceOk_succ, hx, hM0]; simp [hlt2])
            clear hb
            go_upto_region 8 with (fail)
            have hW : Grew w (wr.alloc (.cells #[.int .i64 K, .int .i64 Z, .int .i64 Q, .string T] 68)) := hG.alloc _ _
            have ca := cell_new4 wr (.int .i64 K) (.int .i64 Z) (.int .i64 Q) (.string T) 68
            have cp := PV.out _ ((Grew.refl wr).alloc (#[.int .i64 K, .int .i64 Z, .int .i64 Q, .string T]) 68)
            generalize wr.alloc (.cells #[.int .i64 K, .int .i64 Z, .int .i64 Q, .string T] 68) = W at *
            generalize wr.heap.size = q at *
            obtain ⟨d0, d1, d2, d3⟩ := ca
            clear e0 e1 e2 e3 hG
            go_quiet (first
              | (go_at_call 34; exact Calls.quiet_of_same (hK.out _))
              | fail)
            go_wp2_with (fail)
            go_ret2
            exact ⟨HF.out, hW.drewN _⟩
    · have hki : ¬ (k : Int) < n := by omega
      obtain rfl : k = n := by omega
      have hq := hAll.out hok
      have hv : leafV C = if leafOk C then txt (leafL C) else ByteArray.empty := rfl
      have hL : leafL C = padL (leafH C k) := by unfold leafL; rw [hNN.out]
      have hs : (txt (leafH C k)).size = (leafH C k).length := txt_size _
      by_cases h128 : (leafH C k).length ≤ 128
      · have hE : Hid (Ending.returned (.tuple #[.string (txt (padL (leafH C k))), .bool true]) = Ending.returned (.tuple #[.string (leafV C), .bool (leafOk C)])) := by
          show _ = _
          rw [hv, hq, decide_eq_true h128, hL]
          rfl
        have hf : Hid (∀ W, _) := fun W => reffill_any (leafH C k) h128 W
        have hsi : ¬ (128 : Int) < (txt (leafH C k)).size := by omega
        clear hs hL hv hq hok hAll hy
        go_wp2_with (first | (go_at_call 36; go_fit (hf.out _); rintro e w1 ⟨rfl, G⟩) | fail)
        go_ret2
        exact ⟨hE.out, hG.trans G⟩
      · have hE : Hid (Ending.returned (.tuple #[.string ByteArray.empty, .bool false]) = Ending.returned (.tuple #[.string (leafV C), .bool (leafOk C)])) := by
          show _ = _
          rw [hv, hq, decide_eq_false h128]
          rfl
        have hsi : (128 : Int) < (txt (leafH C k)).size := by omega
        clear hs hL hv hq hok hAll hy
        go_wp2_with (fail)
        go_ret2
        exact ⟨hE.out, hG⟩
end Go.Proofs.Ytjcocmoidboamaa
