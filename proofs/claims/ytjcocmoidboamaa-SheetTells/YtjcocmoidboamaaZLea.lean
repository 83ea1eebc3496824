/-
  Package sheet's Leaf: cells in memory, as a page.
-/
import Derived.Test.YtjcocmoidboamaaZInd
import Derived.Test.YtjcocmoidboamaaZCell
namespace Go.Proofs.Ytjcocmoidboamaa
open Go Go.RowKit

/-- A cell as a value. -/
def ceV (c : Ce) : Value := .agg #[.int .i64 c.key, .int .i64 c.size, .int .i64 c.page, .string c.bytes]
/-- There may be such a cell, whatever its key. -/
def rightC (c : Ce) : Bool := if c.size ≤ 24 then decide (c.page = 0) && decide ((c.bytes.size : Int) = c.size) else decide (c.size ≤ 900) && pageB c.page && decide (c.bytes = ByteArray.empty)
theorem good_right (c : Ce) : ceGood c = (keyB c.key && rightC c) := by
  unfold ceGood rightC
  by_cases hz : c.size ≤ 24
  · rw [if_pos hz, if_pos hz, Bool.eq_iff_iff]
    simp only [Bool.and_eq_true, decide_eq_true_eq]
    constructor
    · rintro ⟨⟨h1, h2⟩, h3⟩; exact ⟨h1, h3⟩
    · rintro ⟨h1, h3⟩; exact ⟨⟨h1, by omega⟩, h3⟩
  · rw [if_neg hz, if_neg hz, Bool.eq_iff_iff]
    simp only [Bool.and_eq_true, decide_eq_true_eq]
    constructor
    · rintro ⟨⟨h1, h2⟩, h3⟩; exact ⟨h1, ⟨h2.2, h3.1⟩, h3.2⟩
    · rintro ⟨h1, ⟨h2, h3⟩, h4⟩; exact ⟨⟨h1, by omega⟩, h3, h4⟩
theorem ceB_ge (c : Ce) : 6 ≤ (ceB c).length := by
  unfold ceB
  rw [List.length_append, List.length_append, digs_len, digs_len]
  omega
theorem leafH_ge (C : List Ce) : ∀ n, n ≤ C.length → 2 + 6 * n ≤ (leafH C n).length := by
  intro n
  induction n with
  | zero => intro _; simp [leafH, digs_len]
  | succ n ih =>
    intro hn
    have h1 := ih (by omega)
    have h3 := ceB_ge (C.getD n noCe)
    rw [leafH_up C n (by omega), List.length_append]
    omega
theorem leaf_much {C : List Ce} {k : Nat} (hk : k ≤ C.length) (h : 128 < (leafH C k).length) : leafOk C = false := by
  have := leafH_mono C k hk
  unfold leafOk
  rw [decide_eq_false (p := (leafH C C.length).length ≤ 128) (by omega)]
  simp
def lastC (C : List Ce) : Nat → Int
  | 0 => -1
  | k + 1 => (C.getD k noCe).key
theorem ceOk_last {C : List Ce} {k : Nat} (h : ∀ j, j < k → ceOk C j = true) : ceOk C k = ((decide (lastC C k < (C.getD k noCe).key) && decide ((C.getD k noCe).key ≤ 2147483647)) && rightC (C.getD k noCe)) := by
  cases k with
  | zero =>
    rw [ceOk_zero, good_right]
    congr 1
    rw [Bool.eq_iff_iff, keyB_iff]
    simp [lastC]
    omega
  | succ k =>
    have h1 := h k (by omega)
    have hk : keyB (C.getD k noCe).key = true := by
      simp only [ceOk, Bool.and_eq_true] at h1
      have := h1.1
      rw [good_right, Bool.and_eq_true] at this
      exact this.1
    have hk := (keyB_iff _).1 hk
    rw [ceOk_succ, good_right, Bool.eq_iff_iff]
    simp only [Bool.and_eq_true, decide_eq_true_eq, keyB_iff, lastC]
    constructor
    · rintro ⟨⟨h1, h2⟩, h3⟩; exact ⟨⟨decide_eq_true h3, h1.2⟩, h2⟩
    · rintro ⟨⟨h1, h2⟩, h3⟩; have h1 := of_decide_eq_true h1; exact ⟨⟨⟨by omega, h2⟩, h3⟩, h1⟩
theorem inline_any (size : Int) (w : World) : Calls Try.prog 46 #[.int .i64 size] w fun e w' => e = .returned (.bool (decide (size ≤ 24))) ∧ w' = w := by
  obtain ⟨k, hk⟩ : ∃ k, decide (size ≤ 24) = k := ⟨_, rfl⟩
  rw [hk]
  replace hk : Hid (decide (size ≤ 24) = k) := hk
  go_enter Try.func46, Try.ntmps46
  go_wp2
  all_goals
    go_ret
    refine ⟨ret_bool (Eq.trans ?_ hk.out), rfl⟩
    first | rfl | (simp; done) | (simp; omega)
set_option maxHeartbeats 1000000 in
theorem right_any (c : Ce) (w : World) : Calls Try.prog 37 #[ceV c] w fun e w' => e = .returned (.bool (rightC c)) ∧ Grew w w' := by
  obtain ⟨K, Z, Q, T⟩ := c
  have hI : Hid (∀ W, Calls Try.prog 46 #[.int .i64 Z] W fun e w' => e = .returned (.bool (decide (Z ≤ 24))) ∧ w' = W) := fun W => inline_any Z W
  have hP : Hid (∀ W, Calls Try.prog 30 #[.int .i64 Q] W fun e w' => e = .returned (.bool (pageB Q)) ∧ w' = W) := fun W => isPage_any Q W
  unfold ceV rightC
  dsimp only
  by_cases hz : Z ≤ 24
  · rw [if_pos hz]
    rw [decide_eq_true hz] at hI
    by_cases hq : Q = 0
    · by_cases hl : (T.size : Int) = Z
      · rw [decide_eq_true hq, decide_eq_true hl]
        go_enter Try.func37, Try.ntmps37
        go_wp2_with (first
          | (go_at_call 46; go_fit (hI.out _); rintro e w1 ⟨rfl, rfl⟩)
          | fail)
        go_ret
        exact ⟨ret_bool (by simp [*]), (Grew.refl w).alloc _ _⟩
      · rw [decide_eq_true hq, decide_eq_false hl]
        go_enter Try.func37, Try.ntmps37
        go_wp2_with (first
          | (go_at_call 46; go_fit (hI.out _); rintro e w1 ⟨rfl, rfl⟩)
          | fail)
        go_ret
        exact ⟨ret_bool (by simp [*]), (Grew.refl w).alloc _ _⟩
    · rw [decide_eq_false hq]
      go_enter Try.func37, Try.ntmps37
      go_wp2_with (first
        | (go_at_call 46; go_fit (hI.out _); rintro e w1 ⟨rfl, rfl⟩)
        | fail)
      go_ret
      exact ⟨ret_bool (by simp [*]), (Grew.refl w).alloc _ _⟩
  · rw [if_neg hz]
    rw [decide_eq_false hz] at hI
    by_cases h9 : Z ≤ 900
    · rw [decide_eq_true h9]
      cases hp : pageB Q with
      | false =>
        rw [hp] at hP
        go_enter Try.func37, Try.ntmps37
        go_wp2_with (first
          | (go_at_call 46; go_fit (hI.out _); rintro e w1 ⟨rfl, rfl⟩)
          | (go_at_call 30; go_fit (hP.out _); rintro e w1 ⟨rfl, rfl⟩)
          | fail)
        go_ret
        exact ⟨ret_bool (by simp [*]), (Grew.refl w).alloc _ _⟩
      | true =>
        rw [hp] at hP
        by_cases ht : T = ByteArray.empty
        · subst ht
          rw [decide_eq_true rfl]
          go_enter Try.func37, Try.ntmps37
          go_wp2_with (first
            | (go_at_call 46; go_fit (hI.out _); rintro e w1 ⟨rfl, rfl⟩)
            | (go_at_call 30; go_fit (hP.out _); rintro e w1 ⟨rfl, rfl⟩)
            | fail)
          go_ret
          exact ⟨ret_bool (by simp [*]), (Grew.refl w).alloc _ _⟩
        · rw [decide_eq_false ht]
          have ht' := not_empty ht
          clear ht
          go_enter Try.func37, Try.ntmps37
          go_wp2_with (first
            | (go_at_call 46; go_fit (hI.out _); rintro e w1 ⟨rfl, rfl⟩)
            | (go_at_call 30; go_fit (hP.out _); rintro e w1 ⟨rfl, rfl⟩)
            | fail)
          go_ret
          exact ⟨ret_bool (by simp [*]), (Grew.refl w).alloc _ _⟩
    · rw [decide_eq_false h9]
      go_enter Try.func37, Try.ntmps37
      go_wp2_with (first
        | (go_at_call 46; go_fit (hI.out _); rintro e w1 ⟨rfl, rfl⟩)
        | fail)
      go_ret
      exact ⟨ret_bool (by simp [*]), (Grew.refl w).alloc _ _⟩
theorem new4 (w : World) (a b c d : Value) (t : TypeId) : (w.alloc (.cells #[a, b, c, d] t)).cell? ⟨w.heap.size, 0, none⟩ = some a ∧ (w.alloc (.cells #[a, b, c, d] t)).cell? ⟨w.heap.size, 1, none⟩ = some b ∧ (w.alloc (.cells #[a, b, c, d] t)).cell? ⟨w.heap.size, 2, none⟩ = some c ∧ (w.alloc (.cells #[a, b, c, d] t)).cell? ⟨w.heap.size, 3, none⟩ = some d := by
  refine ⟨?_, ?_, ?_, ?_⟩ <;> rw [cell_of_row _ _ _ _ _ _ (heap_alloc_new _ _)] <;> rfl
set_option maxHeartbeats 1000000 in
theorem appendTo_any (w0 w : World) (v : Value) (D : List UInt8) (c : Ce) (hc : ceGood c = true) (h : Bt w0 w v D) (hD : D.length ≤ 1000) :
    Calls Try.prog 38 #[ceV c, v] w fun e w' => ∃ v', e = .returned v' ∧ Bt w0 w' v' (D ++ ceB c) ∧ Onto v v' w w' := by
  have hg := hc
  rw [good_right, Bool.and_eq_true] at hg
  obtain ⟨hk, hr⟩ := hg
  have hk := (keyB_iff _).1 hk
  have hz0 : 0 ≤ c.size ∧ c.size ≤ 900 := by
    by_cases e : c.size < 0 ∨ 900 < c.size
    · rw [good_size e] at hc; cases hc
    · omega
  unfold rightC at hr
  unfold ceB ceV
  obtain ⟨K, Z, Q, T⟩ := c
  dsimp only at hk hr hz0 hc ⊢
  obtain ⟨Kn, rfl⟩ := Int.eq_ofNat_of_zero_le hk.1
  obtain ⟨Zn, rfl⟩ := Int.eq_ofNat_of_zero_le hz0.1
  have hI : Hid (∀ W, Calls Try.prog 46 #[.int .i64 (Zn : Int)] W fun e w' => e = .returned (.bool (decide ((Zn : Int) ≤ 24))) ∧ w' = W) := fun W => inline_any _ W
  have hG : Grew w (w.alloc (.cells #[.int .i64 Kn, .int .i64 Zn, .int .i64 Q, .string T] 26)) := (Grew.refl w).alloc _ _
  obtain ⟨z0, z1, z2, z3⟩ := new4 w (.int .i64 Kn) (.int .i64 Zn) (.int .i64 Q) (.string T) 26
  have nz : v.ownBlock ≠ some w.heap.size := fun e => absurd (h.row.lt _ e).2 (Nat.lt_irrefl _)
  have hA := h.grew hG
  rw [Int.toNat_natCast, Int.toNat_natCast]
  by_cases hz : (Zn : Int) ≤ 24
  · rw [if_pos hz] at hr ⊢
    rw [decide_eq_true hz] at hI
    simp only [Bool.and_eq_true, decide_eq_true_eq] at hr
    have hT : T.size ≤ 24 := by omega
    obtain ⟨i0, hi0, hy0, hy1, hy2⟩ := byte_parts
    clear hc h hr
    go_enter Try.func38, Try.ntmps38
    go_wp2_with (first
      | (go_at_call 46; go_fit (hI.out _); rintro e w1 ⟨rfl, rfl⟩)
      | (go_at_call 31; go_fit (abig_any w0 _ _ _ Kn 4 (by omega) (by omega) (by omega) hA); rintro e w1 ⟨v1, rfl, hb1, ho1⟩; obtain ⟨y1, n1⟩ := ho1.cell z1 nz; obtain ⟨y2, _⟩ := ho1.cell z2 nz; obtain ⟨y3, _⟩ := ho1.cell z3 nz)
      | (go_at_call 31; go_fit (abig_any w0 _ _ _ Zn 2 (by omega) (by omega) (by rw [List.length_append, digs_len]; omega) hb1); rintro e w2 ⟨v2, rfl, hb2, ho2⟩; obtain ⟨x1, n2⟩ := ho2.cell y1 n1; obtain ⟨x2, _⟩ := ho2.cell y2 n1; obtain ⟨x3, _⟩ := ho2.cell y3 n1; have hbl := hb2.bel.size; have hln : (D ++ digs Kn 4 ++ digs Zn 2).length ≤ 1006 := (by rw [List.length_append, List.length_append, digs_len, digs_len]; omega); obtain ⟨a2, m2, cap2, rfl, hm2, hr2⟩ := hb2.slot; have hm3 : m2 ≤ 1006 := (by rw [hm2.out]; exact hln))
      | (at_builtin; refine wpList_app_str rfl (.tmp 16) (.tmp 18) 53 9 rfl w0.heap.size 5 i0 Try.underlying53 Try.underlying9 hi0 hy0 hy1 hy2 _ _ _ rfl hr2 T rfl (by unfold maxLen; omega) (by omega) hbl ?_; intro v3 w3 hv3 hg3 ho3)
      | fail)
    go_ret
    have hT2 : T.size = T.data.toList.length := (Array.length_toList ..).symm
    rw [hT2, hm2.out] at hv3
    obtain ⟨b1, b2⟩ := hb2.onto (X := T.data.toList) hv3 hg3 ho3
    refine ⟨v3, rfl, ?_, Onto.ahead hG (ho1.trans (ho2.trans b2))⟩
    simpa using b1
  · rw [if_neg hz] at hr ⊢
    rw [decide_eq_false hz] at hI
    simp only [Bool.and_eq_true, decide_eq_true_eq] at hr
    have hQ := (pageB_iff _).1 hr.1.2
    obtain ⟨Qn, rfl⟩ := Int.eq_ofNat_of_zero_le (show 0 ≤ Q by omega)
    rw [Int.toNat_natCast]
    clear hc h hr
    go_enter Try.func38, Try.ntmps38
    go_wp2_with (first
      | (go_at_call 46; go_fit (hI.out _); rintro e w1 ⟨rfl, rfl⟩)
      | (go_at_call 31; go_fit (abig_any w0 _ _ _ Qn 2 (by omega) (by omega) hln hb2); rintro e w3 ⟨v3, rfl, hb3, ho3⟩)
      | (go_at_call 31; go_fit (abig_any w0 _ _ _ Kn 4 (by omega) (by omega) (by omega) hA); rintro e w1 ⟨v1, rfl, hb1, ho1⟩; obtain ⟨y1, n1⟩ := ho1.cell z1 nz; obtain ⟨y2, _⟩ := ho1.cell z2 nz; obtain ⟨y3, _⟩ := ho1.cell z3 nz)
      | (go_at_call 31; go_fit (abig_any w0 _ _ _ Zn 2 (by omega) (by omega) (by rw [List.length_append, digs_len]; omega) hb1); rintro e w2 ⟨v2, rfl, hb2, ho2⟩; obtain ⟨x1, n2⟩ := ho2.cell y1 n1; obtain ⟨x2, _⟩ := ho2.cell y2 n1; obtain ⟨x3, _⟩ := ho2.cell y3 n1; have hln : (D ++ digs Kn 4 ++ digs Zn 2).length ≤ 100000 := (by rw [List.length_append, List.length_append, digs_len, digs_len]; omega))
      | fail)
    refine bodyPost_ret (v := v3) (by simp [results, Try.results38, go_sem]) rfl ?_
    refine ⟨v3, rfl, ?_, Onto.ahead hG (ho1.trans (ho2.trans ho3))⟩
    simpa using hb3
set_option maxRecDepth 10000 in
set_option maxHeartbeats 4000000 in
theorem leaf_any (C : List Ce) (a : Option Addr) (cap : Nat) (w : World) (hS : CellsAt w a C) (hm : C.length < 1000000) : Calls Try.prog 13 #[.slice a C.length cap] w fun e w' => e = .returned (.tuple #[.string (leafV C), .bool (leafOk C)]) ∧ Below w.heap.size w w' := by
  obtain ⟨n, hN⟩ : ∃ n, C.length = n := ⟨_, rfl⟩
  have hAll : Hid ((∀ k, k < n → ceOk C k = true) → (leafH C n).length ≤ 128 → leafV C = txt (padL (leafH C n)) ∧ leafOk C = true) := fun h hl => by
    have := leafH_ge C n (by omega)
    have := leaf_end (by omega) (fun k hk => h k (by omega))
    rw [hN, decide_eq_true hl] at this
    refine ⟨?_, this⟩
    unfold leafV leafL
    rw [this, if_pos rfl, hN]
  have hNone : Hid (∀ k, k < n → ceOk C k = false → Ending.returned (.tuple #[.string ByteArray.empty, .bool false]) = Ending.returned (.tuple #[.string (leafV C), .bool (leafOk C)])) := fun k hk h => by
    unfold leafV
    rw [leaf_no (by omega) h, if_neg (by decide)]
  have hMuch : Hid (∀ k, k ≤ n → 128 < (leafH C k).length → Ending.returned (.tuple #[.string ByteArray.empty, .bool false]) = Ending.returned (.tuple #[.string (leafV C), .bool (leafOk C)])) := fun k hk h => by
    unfold leafV
    rw [leaf_much (by omega) h, if_neg (by decide)]
  have h0 : Hid (leafH C 0 = 76 :: digs n 1) := by
    show _ = _
    rw [← hN]
    simp [leafH]
  rw [hN]
  have hNN : Hid (C.length = n) := hN
  have hnm : n < 1000000 := by omega
  clear hN hm
  have hB0 := bt_lit2 w 76 n ((n : Int) % 256) rfl
  rw [← h0.out] at hB0
  go_enter Try.func13, Try.ntmps13
  go_wp2
  go_loopw [4, 5, 14] (fun b last i wr => ∃ (k : Nat) (v : Value), k ≤ n ∧ i = .int .i64 k ∧ b = v ∧ last = .int .i64 (lastC C k) ∧ (∀ j, j < k → ceOk C j = true) ∧ (leafH C k).length ≤ 128 ∧ Bt w wr v (leafH C k)) (fun _ _ i _ => n - (intOf i).toNat)
  case atStart => exact ⟨0, _, by omega, rfl, rfl, rfl, fun j hj => absurd hj (by omega), by rw [h0.out]; simp [digs_len], hB0⟩
  case round =>
    clear hB0
    obtain ⟨k, v, hk, rfl, rfl, rfl, hok, hlk, hb⟩ := hrel
    by_cases hlt : k < n
    · have hki : (k : Int) < n := by omega
      obtain ⟨b, off, rfl, hcs⟩ := hS.resolve_left (fun e => by have := hNN.out; rw [e] at this; simp at this; omega)
      have hb0 := hcs k (by rw [hNN.out]; exact hlt)
      have hsl := ceOk_last hok
      have hup := leafH_up C k (by rw [hNN.out]; exact hlt)
      have hls : (C.getD k noCe).key = lastC C (k + 1) := rfl
      have hMk : Hid (128 < (leafH C (k + 1)).length → _) := hMuch.out (k + 1) (by omega)
      have hok1 : Hid (ceOk C k = true → ∀ j, j < k + 1 → ceOk C j = true) := fun h j hj => by
        by_cases e : j = k
        · rw [e, h]
        · exact hok j (by omega)
      have hgood : Hid (ceOk C k = true → ceGood (C.getD k noCe) = true) := fun h => by
        simp only [ceOk, Bool.and_eq_true] at h
        exact h.1
      obtain ⟨x, hx0⟩ : ∃ x, C.getD k noCe = x := ⟨_, rfl⟩
      rw [hx0] at hb0 hsl hup hls hgood
      obtain ⟨c0, c1, c2, c3⟩ := hb0
      have c0 := below_cell hb.bel c0
      have c1 := below_cell hb.bel c1
      have c2 := below_cell hb.bel c2
      have c3 := below_cell hb.bel c3
      clear hcs hx0 hok
      have hR : Hid (∀ W, Calls Try.prog 37 #[ceV x] W fun e w' => e = .returned (.bool (rightC x)) ∧ Grew W w') := fun W => right_any x W
      have hA : Hid (∀ W, ceGood x = true → Bt w W u4 (leafH C k) → Calls Try.prog 38 #[ceV x, u4] W fun e w' => ∃ v', e = .returned v' ∧ Bt w w' v' (leafH C k ++ ceB x) ∧ Onto u4 v' W w') := fun W h1 h2 => appendTo_any w W u4 _ x h1 h2 (by omega)
      rw [← hup] at hA
      obtain ⟨K, Z, Q, T⟩ := x
      unfold ceV at hR hA
      dsimp only at c0 c1 c2 c3 hR hA hsl hls
      have hF : Hid (∀ W, Calls Try.prog 29 #[.int .i64 K, .int .i64 (lastC C k)] W fun e w' => e = .returned (.bool (decide (lastC C k < K) && decide (K ≤ 2147483647))) ∧ w' = W) := fun W => follows_any K _ W
      cases hf : (decide (lastC C k < K) && decide (K ≤ 2147483647)) with
      | false =>
        rw [hf] at hF hsl
        have HE : Hid _ := hNone.out k hlt (by rw [hsl]; rfl)
        clear hf hsl hup hls hS hAll hNone hMuch hMk hok1 hgood hA hR
        go_wp2_with (first
          | (go_at_call 29; go_fit (hF.out _); rintro e w1 ⟨rfl, rfl⟩)
          | fail)
        go_ret2
        exact ⟨HE.out, (hb.grew ((Grew.refl _).alloc _ _)).bel⟩
      | true =>
        rw [hf] at hF hsl
        cases hp : rightC ⟨K, Z, Q, T⟩ with
        | false =>
          rw [hp] at hR hsl
          have HE : Hid _ := hNone.out k hlt (by rw [hsl]; rfl)
          obtain ⟨z0, z1, z2, z3⟩ := new4 wr (.int .i64 K) (.int .i64 Z) (.int .i64 Q) (.string T) 26
          clear hf hsl hup hls hS hAll hNone hMuch hMk hok1 hgood hA hp
          go_wp2_with (first
            | (go_at_call 29; go_fit (hF.out _); rintro e w1 ⟨rfl, rfl⟩)
            | (go_at_call 37; go_fit (hR.out _); rintro e w1 ⟨rfl, G1⟩)
            | fail)
          go_ret2
          exact ⟨HE.out, ((hb.grew ((Grew.refl _).alloc _ _)).grew G1).bel⟩
        | true =>
          rw [hp] at hR hsl
          have hg := hgood.out (by rw [hsl]; rfl)
          have hcur : Hid (∀ j, j < k + 1 → ceOk C j = true) := hok1.out (by rw [hsl]; rfl)
          have hbA : Bt w (wr.alloc (.cells #[.int .i64 K, .int .i64 Z, .int .i64 Q, .string T] 26)) u4 (leafH C k) := hb.grew ((Grew.refl _).alloc _ _)
          obtain ⟨z0, z1, z2, z3⟩ := new4 wr (.int .i64 K) (.int .i64 Z) (.int .i64 Q) (.string T) 26
          have nz : u4.ownBlock ≠ some wr.heap.size := fun e => absurd (hb.row.lt _ e).2 (Nat.lt_irrefl _)
          have hA1 : Hid (∀ W, Bt w W u4 (leafH C k) → Calls Try.prog 38 #[.agg #[.int .i64 K, .int .i64 Z, .int .i64 Q, .string T], u4] W fun e w' => ∃ v', e = .returned v' ∧ Bt w w' v' (leafH C (k + 1)) ∧ Onto u4 v' W w') := fun W h => hA.out W hg h
          replace hls : Hid (K = lastC C (k + 1)) := hls
          clear hf hsl hS hAll hNone hp hMuch hok1 hgood hA hup hg
          by_cases hlen : 128 < (leafH C (k + 1)).length
          · have HE : Hid _ := hMk.out hlen
            clear hMk
            go_wp2_with (first
              | (go_at_call 29; go_fit (hF.out _); rintro e w1 ⟨rfl, rfl⟩)
              | (go_at_call 37; go_fit (hR.out _); rintro e w1 ⟨rfl, G1⟩; replace hbA := hbA.grew G1; have y0 := G1.cell z0; have y1 := G1.cell z1; have y2 := G1.cell z2; have y3 := G1.cell z3)
              | (go_at_call 38; go_fit (hA1.out _ hbA); rintro e w2 ⟨v2, rfl, hb2, ho2⟩; obtain ⟨x0, n2⟩ := ho2.cell y0 nz; obtain ⟨a2, m2, cap2, rfl, hm2, hr2⟩ := hb2.slot; have hm3 : (128 : Int) < m2 := (by rw [hm2.out]; omega); clear hlen)
              | fail)
            go_ret2
            exact ⟨HE.out, hb2.bel⟩
          · clear hMk
            have hlen' : (leafH C (k + 1)).length ≤ 128 := by omega
            clear hlen
            go_wp2_with (first
              | (go_at_call 29; go_fit (hF.out _); rintro e w1 ⟨rfl, rfl⟩)
              | (go_at_call 37; go_fit (hR.out _); rintro e w1 ⟨rfl, G1⟩; replace hbA := hbA.grew G1; have y0 := G1.cell z0; have y1 := G1.cell z1; have y2 := G1.cell z2; have y3 := G1.cell z3)
              | (go_at_call 38; go_fit (hA1.out _ hbA); rintro e w2 ⟨v2, rfl, hb2, ho2⟩; obtain ⟨x0, n2⟩ := ho2.cell y0 nz; obtain ⟨a2, m2, cap2, rfl, hm2, hr2⟩ := hb2.slot; have hm3 : ¬ (128 : Int) < m2 := (by rw [hm2.out]; omega); have hm4 : (m2 : Int) ≤ 128 := (by omega))
              | fail)
            exact ⟨⟨k + 1, _, hlt, by simp, rfl, congrArg (Value.int .i64) hls.out, hcur.out, hlen', hb2⟩, meas_up hlt⟩
    · have hki : ¬ (k : Int) < n := by omega
      obtain rfl : k = n := by omega
      obtain ⟨v1, v2⟩ := hAll.out hok hlk
      replace v1 : Hid (leafV C = txt (padL (leafH C k))) := v1
      replace v2 : Hid (leafOk C = true) := v2
      have hne : Hid (leafH C k ≠ []) := fun e => by
        have hl := leafH_ge C k (by rw [hNN.out]; omega)
        rw [e, List.length_nil] at hl
        omega
      clear hok hAll hNone hMuch
      go_wp2_with (first | (go_at_call 32; go_fit (filled_any w _ _ _ hb hne.out hlk); rintro e w1 ⟨rfl, B⟩) | fail)
      go_ret2
      exact ⟨by rw [v1.out, v2.out]; rfl, hb.bel.trans (B.mono hb.bel.size)⟩
theorem fits_any (C : List Ce) (a : Option Addr) (cap : Nat) (w : World) (hS : CellsAt w a C) (hm : C.length < 1000000) : Calls Try.prog 18 #[.slice a C.length cap] w fun e w' => e = .returned (.bool (leafOk C)) ∧ Below w.heap.size w w' := by
  have hL : Hid (Calls Try.prog 13 #[.slice a C.length cap] w fun e w' => e = .returned (.tuple #[.string (leafV C), .bool (leafOk C)]) ∧ Below w.heap.size w w') := leaf_any C a cap w hS hm
  clear hS hm
  generalize leafV C = V at *
  generalize leafOk C = k at *
  generalize C.length = n at *
  go_enter Try.func18, Try.ntmps18
  go_wp2_with (first | (go_at_call 13; go_fit hL.out; rintro e w1 ⟨rfl, B⟩) | fail)
  go_ret
  exact ⟨rfl, B⟩
end Go.Proofs.Ytjcocmoidboamaa
