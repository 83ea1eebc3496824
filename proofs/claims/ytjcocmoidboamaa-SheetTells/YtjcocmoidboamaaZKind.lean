/-
  Package sheet's Chain, Link and Kind.
-/
import Derived.Test.YtjcocmoidboamaaZReadC
namespace Go.Proofs.Ytjcocmoidboamaa
open Go Go.RowKit
open Go.Lib (strCells)

theorem on_two {a b c : World} (h : Below a.heap.size a b) (g : Below b.heap.size b c) : Below a.heap.size a c := h.trans (g.mono h.size)
theorem on_three {a b c d : World} (h : Below a.heap.size a b) (g : Below b.heap.size b c) (f : Below c.heap.size c d) : Below a.heap.size a d := on_two (on_two h g) f
theorem bt_lit1 (w : World) (x : UInt8) : Bt w (w.alloc (.cells #[.int .u8 x.toNat] 5)) (.slice (some ⟨w.heap.size, 0, none⟩) 1 1) [x] := by
  refine ⟨?_, (Below.refl _ w).alloc (Nat.le_refl _) _⟩
  exact World.ownsRow_lit (e := 5) (base := w.heap.size) (size := 1) w #[.int .u8 x.toNat] 1 (by omega) (by have : maxLen = 9223372036854775807 := rfl; omega) rfl
theorem isPage_at (n : Int) (W : World) (k : Bool) (h : pageB n = k) : Calls Try.prog 30 #[.int .i64 n] W fun e w' => e = .returned (.bool k) ∧ W = w' := by
  rw [← h]
  exact (isPage_any n W).mono fun e w' ⟨h1, h2⟩ => ⟨h1, h2.symm⟩
set_option maxHeartbeats 1000000 in
theorem schain_any (next : Int) (t : List UInt8) (w : World) : Calls Try.prog 16 #[.int .i64 next, .string (txt t)] w fun e w' => e = .returned (.tuple #[.string (chainV next t), .bool (chainOk next t)]) ∧ Below w.heap.size w w' := by
  have st := txt_size t
  have hp : Hid (∀ W, Calls Try.prog 30 #[.int .i64 next] W fun e w' => e = .returned (.bool (pageB next)) ∧ w' = W) := fun W => isPage_any next W
  cases hk : chainOk next t with
  | false =>
    unfold chainV
    rw [hk]
    have hn : (next = 0 ∨ 2 ≤ next ∧ next < 200) ∧ 1 ≤ t.length ∧ t.length ≤ 120 → False := fun e => by rw [(chainOk_iff next t).2 e] at hk; cases hk
    rw [← st] at hn
    generalize hq : pageB next = q at hp
    have hq' : q = true ↔ 2 ≤ next ∧ next < 200 := by rw [← hq]; exact pageB_iff next
    clear hk hq st
    generalize txt t = X at *
    replace hn : Hid _ := hn
    cases q with
    | true =>
      have hq2 : Hid _ := hq'.1 rfl
      clear hq'
      go_enter Try.func16, Try.ntmps16
      go_wp2_with (first | (go_at_call 30; go_fit (hp.out _); rintro e w1 ⟨rfl, rfl⟩) | fail)
      all_goals
        first
          | (go_ret2; exact ⟨rfl, Below.refl _ _⟩)
          | (exfalso; have hq2 := hq2.out; exact hn.out ⟨by omega, by omega, by omega⟩)
    | false =>
      have hq2 : Hid (¬ (2 ≤ next ∧ next < 200)) := (fun e => absurd (hq'.2 e) (by decide) : ¬ (2 ≤ next ∧ next < 200))
      clear hq'
      go_enter Try.func16, Try.ntmps16
      go_wp2_with (first | (go_at_call 30; go_fit (hp.out _); rintro e w1 ⟨rfl, rfl⟩) | fail)
      all_goals
        first
          | (go_ret2; exact ⟨rfl, Below.refl _ _⟩)
          | (exfalso; have hq2 := hq2.out; exact hn.out ⟨by omega, by omega, by omega⟩)
  | true =>
    have hh := (chainOk_iff next t).1 hk
    obtain ⟨i0, hi0, hy0, hy1, hy2⟩ := byte_parts
    have hv : chainV next t = txt (chainL next t) := if_pos hk
    rw [hv]
    obtain ⟨N, rfl⟩ := Int.eq_ofNat_of_zero_le (show 0 ≤ next by omega)
    have hpB : (N : Int) ≠ 0 → pageB N = true := fun e => (pageB_iff _).2 (by omega)
    have hN : N < 200 := by omega
    have hch : Hid ([67] ++ digs N 2 ++ digs t.length 1 ++ t = chainH N t) := by
      show _ = _
      simp [chainH]
    have hL : Hid (chainL N t = padL (chainH N t)) := rfl
    have hlen : Hid ((chainH N t).length ≤ 128) := (by rw [chainH_len]; omega : (chainH N t).length ≤ 128)
    have hne : Hid (chainH N t ≠ []) := (fun e => by have := chainH_len N t; rw [e, List.length_nil] at this; omega : chainH N t ≠ [])
    have ht : t.length ≤ 120 ∧ 1 ≤ t.length := ⟨hh.2.2, hh.2.1⟩
    have n1 : ¬ ((txt t).size : Int) < 1 := by rw [st]; omega
    have n2 : ¬ (120 : Int) < (txt t).size := by rw [st]; omega
    have hs : (txt t).size ≤ 120 := by rw [st]; omega
    have hB0 := bt_lit1 w 67
    have hd1 : ∀ c : Int, c = ((txt t).size : Int) → u8V (digs t.length 1) = [.int .u8 c] := fun c e => by
      rw [e, st]
      simp [u8V, digs]
      omega
    replace hd1 : Hid (∀ c : Int, c = ((txt t).size : Int) → u8V (digs t.length 1) = [.int .u8 c]) := hd1
    have hst : Hid (strCells (txt t) = u8V t) := rfl
    replace st : Hid ((txt t).size = t.length) := st
    clear hv hh hk
    generalize hX : txt t = X at *
    by_cases h0 : N = 0
    · subst h0
      have hA0 : Hid (Calls Try.prog 31 #[.slice (some ⟨w.heap.size, 0, none⟩) 1 1, .int .i64 0, .int .i64 2] (w.alloc (.cells #[.int .u8 67] 5)) fun e w' => ∃ v', e = .returned v' ∧ Bt w w' v' ([67] ++ digs 0 2) ∧ Onto (.slice (some ⟨w.heap.size, 0, none⟩) 1 1) v' (w.alloc (.cells #[.int .u8 67] 5)) w') := abig_any w _ _ _ 0 2 (by omega) (by omega) (by simp) hB0
      clear hp hpB hB0
      go_enter Try.func16, Try.ntmps16
      go_wp2_with (first
        | (go_at_call 31; go_fit (hA0.out); rintro e w1 ⟨v1, rfl, hb1, ho1⟩; obtain ⟨a1, m1, c1, rfl, hm1, hr1⟩ := hb1.slot; have hl1 : m1 ≤ 10 := (by rw [hm1.out]; simp [digs_len]); have hbl := hb1.bel.size)
        | (at_builtin; refine wpList_app _ rfl (.tmp 25) (.tmp 29) 53 rfl w.heap.size 5 i0 (.int .u8 0) 1 1 Try.underlying53 hi0 hy0 hy1 hy2 rfl (by decide) _ _ _ rfl (hr1.alloc _) (some ⟨w1.heap.size, 0, none⟩) 1 1 [.int .u8 X.size] rfl rfl (.inr ⟨_, 0, rfl, fun j u hj => by match j, hj with | 0, hj => (simp at hj; subst hj; simp [go_sem])⟩) (fun u hu => by simp at hu; subst hu; rfl) (by unfold maxLen; omega) (by omega) (by simp; omega) ?_; intro v2 w2 hv2 hg2 hk2 ho2; obtain ⟨hb2, _⟩ := (hb1.grew ((Grew.refl w1).alloc _ _)).onto (w' := w2) (v' := v2) (X := digs t.length 1) (by rw [hd1.out _ rfl, digs_len, ← hm1.out]; exact hv2) hg2 ho2; obtain ⟨a2, m2, c2, rfl, hm2, hr2⟩ := hb2.slot; have hl2 : m2 ≤ 20 := (by rw [hm2.out]; simp [digs_len]); have hbl2 := hb2.bel.size)
        | (at_builtin; refine wpList_app_str rfl (.tmp 31) (.tmp 32) 53 9 rfl w.heap.size 5 i0 Try.underlying53 Try.underlying9 hi0 hy0 hy1 hy2 _ _ _ rfl hr2 X rfl (by unfold maxLen; omega) (by omega) hbl2 ?_; intro v3 w3 hv3 hg3 ho3; obtain ⟨hb3, _⟩ := hb2.onto (w' := w3) (v' := v3) (X := t) (by rw [hst.out, st.out, hm2.out] at hv3; exact hv3) hg3 ho3; rw [hch.out] at hb3)
        | (go_at_call 32; go_fit (filled_any w _ _ _ hb3 hne.out hlen.out); rintro e w4 ⟨rfl, B4⟩)
        | fail)
      go_ret2
      exact ⟨by rw [hL.out]; rfl, hb3.bel.trans (B4.mono hb3.bel.size)⟩
    · have hp2 : Hid (∀ W, Calls Try.prog 30 #[.int .i64 N] W fun e w' => e = .returned (.bool true) ∧ W = w') := fun W => isPage_at _ W true (hpB (by omega))
      have hN0 : ¬ (N : Int) = 0 := by omega
      clear hp hpB
      go_enter Try.func16, Try.ntmps16
      go_wp2_with (first
        | (go_at_call 30; go_fit (hp2.out _); rintro e w1 ⟨rfl, rfl⟩)
        | (go_at_call 31; go_fit (abig_any w _ _ _ N 2 (by omega) (by omega) (by simp) hB0); rintro e w1 ⟨v1, rfl, hb1, ho1⟩; obtain ⟨a1, m1, c1, rfl, hm1, hr1⟩ := hb1.slot; have hl1 : m1 ≤ 10 := (by rw [hm1.out]; simp [digs_len]); have hbl := hb1.bel.size)
        | (at_builtin; refine wpList_app _ rfl (.tmp 25) (.tmp 29) 53 rfl w.heap.size 5 i0 (.int .u8 0) 1 1 Try.underlying53 hi0 hy0 hy1 hy2 rfl (by decide) _ _ _ rfl (hr1.alloc _) (some ⟨w1.heap.size, 0, none⟩) 1 1 [.int .u8 X.size] rfl rfl (.inr ⟨_, 0, rfl, fun j u hj => by match j, hj with | 0, hj => (simp at hj; subst hj; simp [go_sem])⟩) (fun u hu => by simp at hu; subst hu; rfl) (by unfold maxLen; omega) (by omega) (by simp; omega) ?_; intro v2 w2 hv2 hg2 hk2 ho2; obtain ⟨hb2, _⟩ := (hb1.grew ((Grew.refl w1).alloc _ _)).onto (w' := w2) (v' := v2) (X := digs t.length 1) (by rw [hd1.out _ rfl, digs_len, ← hm1.out]; exact hv2) hg2 ho2; obtain ⟨a2, m2, c2, rfl, hm2, hr2⟩ := hb2.slot; have hl2 : m2 ≤ 20 := (by rw [hm2.out]; simp [digs_len]); have hbl2 := hb2.bel.size)
        | (at_builtin; refine wpList_app_str rfl (.tmp 31) (.tmp 32) 53 9 rfl w.heap.size 5 i0 Try.underlying53 Try.underlying9 hi0 hy0 hy1 hy2 _ _ _ rfl hr2 X rfl (by unfold maxLen; omega) (by omega) hbl2 ?_; intro v3 w3 hv3 hg3 ho3; obtain ⟨hb3, _⟩ := hb2.onto (w' := w3) (v' := v3) (X := t) (by rw [hst.out, st.out, hm2.out] at hv3; exact hv3) hg3 ho3; rw [hch.out] at hb3)
        | (go_at_call 32; go_fit (filled_any w _ _ _ hb3 hne.out hlen.out); rintro e w4 ⟨rfl, B4⟩)
        | fail)
      go_ret2
      exact ⟨by rw [hL.out]; rfl, hb3.bel.trans (B4.mono hb3.bel.size)⟩
set_option maxHeartbeats 1000000 in
theorem link_any (s : ByteArray) (w : World) (hs : s.size ≤ 1000000000) : Calls Try.prog 23 #[.string s] w fun e w' => e = .returned (.tuple #[.int .i64 (linkV s).1, .string (linkV s).2, .bool (isLink s.data.toList)]) ∧ Below w.heap.size w w' := by
  have eI := isLink_code s.data.toList
  have hsl : s.data.toList.length = s.size := Array.length_toList ..
  obtain ⟨p, hp⟩ : ∃ p, w.heap.size = p := ⟨_, rfl⟩
  obtain ⟨X, hX⟩ : ∃ X, s.data.toList = X := ⟨_, rfl⟩
  have hXs : txt X = s := by rw [← hX]; exact txt_list s
  have hXl : X.length ≤ 1000000000 := by rw [← hX]; omega
  unfold linkV
  rw [hX] at eI ⊢
  have hP0 : Hid (PcAt (w.alloc (.cells #[.string s] 69)) p X) := by rw [← hp, ← hX]; exact pc_new w s _
  have hT0 : Hid (Calls Try.prog 39 #[.pointer (some ⟨p, 0, none⟩), .int .i64 1] (w.alloc (.cells #[.string s] 69)) fun e w' => e = .returned (.string (txt (X.take 1))) ∧ PcAt w' p (X.drop 1) ∧ But (fun i => i = p) (w.alloc (.cells #[.string s] 69)) w') := take_any p 1 X _ hP0.out hXl (by omega)
  have hT1 : Hid (∀ W, PcAt W p (X.drop 1) → Calls Try.prog 40 #[.pointer (some ⟨p, 0, none⟩), .int .i64 2] W fun e w' => e = .returned (.int .i64 (linkN X)) ∧ PcAt w' p (X.drop 3) ∧ But (fun i => i = p) W w') := fun W h => by
    have := pnumber_any p 2 (X.drop 1) W h (by rw [List.length_drop]; omega) (by omega)
    rw [List.drop_drop] at this
    exact this
  obtain ⟨m, hm⟩ : ∃ m, valL ((X.drop 3).take 1) = m := ⟨_, rfl⟩
  have hm256 : m < 256 := by
    obtain ⟨l, hl⟩ : ∃ l, (X.drop 3).take 1 = l := ⟨_, rfl⟩
    have hlen : l.length ≤ 1 := by rw [← hl, List.length_take]; omega
    rw [hl] at hm
    have := valL_lt l.length l rfl
    have e : l.length = 0 ∨ l.length = 1 := by omega
    rcases e with e | e <;> rw [e] at this <;> simp at this <;> omega
  have hT2 : Hid (∀ W, PcAt W p (X.drop 3) → Calls Try.prog 40 #[.pointer (some ⟨p, 0, none⟩), .int .i64 1] W fun e w' => e = .returned (.int .i64 m) ∧ PcAt w' p (X.drop 4) ∧ But (fun i => i = p) W w') := fun W h => by
    have := pnumber_any p 1 (X.drop 3) W h (by rw [List.length_drop]; omega) (by omega)
    have e : numR (txt ((X.drop 3).take 1)) = m := by
      show wrap64 (valL ((X.drop 3).take 1)) = m
      rw [hm, wrap_small (by omega)]
    rw [List.drop_drop, e] at this
    exact this
  have hT3 : Hid (∀ W, PcAt W p (X.drop 4) → Calls Try.prog 43 #[.pointer (some ⟨p, 0, none⟩), .int .i64 m] W fun e w' => e = .returned (.string (txt (linkT X))) ∧ PcAt w' p ((X.drop 4).drop m) ∧ But (fun i => i = p) W w') := fun W h => by
    have := ptext_any p m (X.drop 4) W h (by rw [List.length_drop]; omega) (by omega)
    have e : (X.drop 4).take m = linkT X := by rw [← hm]; rfl
    rw [e] at this
    exact this
  have hBw : Hid (Below p w (w.alloc (.cells #[.string s] 69))) := (by rw [← hp]; exact (Below.refl _ w).alloc (Nat.le_refl _) _ : Below p w (w.alloc (.cells #[.string s] 69)))
  have hCh : Hid (∀ W, Calls Try.prog 16 #[.int .i64 (linkN X), .string (txt (linkT X))] W fun e w' => e = .returned (.tuple #[.string (chainV (linkN X) (linkT X)), .bool (chainOk (linkN X) (linkT X))]) ∧ Below W.heap.size W w') := fun W => schain_any _ _ W
  have hv : chainV (linkN X) (linkT X) = if chainOk (linkN X) (linkT X) then txt (chainL (linkN X) (linkT X)) else ByteArray.empty := rfl
  rw [hv] at hCh
  have eI' : isLink X = (chainOk (linkN X) (linkT X) && decide (txt (chainL (linkN X) (linkT X)) = s)) := by
    rw [eI, Bool.eq_iff_iff]
    simp only [Bool.and_eq_true, decide_eq_true_eq]
    constructor
    · rintro ⟨h1, h2⟩; exact ⟨h1, by rw [h2]; exact hXs⟩
    · rintro ⟨h1, h2⟩; exact ⟨h1, txt_inj (h2.trans hXs.symm)⟩
  have hpp : ∀ i, i = p → p ≤ i := fun i e => Nat.le_of_eq e.symm
  rw [eI']
  clear eI eI' hsl hX hXs hXl hv hm
  generalize linkN X = L at *
  generalize txt (linkT X) = T at *
  generalize txt (chainL L (linkT X)) = C at *
  generalize chainOk L (linkT X) = k at *
  have hcl : Hid (∀ w1 w2 w3 w4, PcAt w1 p (X.drop 1) → PcAt w2 p (X.drop 3) → PcAt w3 p (X.drop 4) → But (fun i => i = p) (w.alloc (.cells #[.string s] 69)) w1 → But (fun i => i = p) w1 w2 → But (fun i => i = p) w2 w3 → But (fun i => i = p) w3 w4 → Below p w w4 ∧ p ≤ w4.heap.size) := fun w1 w2 w3 w4 h1 h2 h3 b1 b2 b3 b4 =>
    ⟨(((hBw.out.trans (b1.below hpp (Nat.le_of_lt hP0.out.lt))).trans (b2.below hpp (Nat.le_of_lt h1.lt))).trans (b3.below hpp (Nat.le_of_lt h2.lt))).trans (b4.below hpp (Nat.le_of_lt h3.lt)), by have := h3.lt; have := b4.size; omega⟩
  cases k with
  | false =>
    rw [if_neg (by decide)] at hCh
    go_enter Try.func23, Try.ntmps23
    go_wp2_with (first
      | (go_at_call 39; go_fit hT0.out; rintro e w1 ⟨rfl, h1, b1⟩)
      | (go_at_call 40; go_fit (hT1.out _ h1); rintro e w2 ⟨rfl, h2, b2⟩)
      | (go_at_call 40; go_fit (hT2.out _ h2); rintro e w3 ⟨rfl, h3, b3⟩)
      | (go_at_call 43; go_fit (hT3.out _ h3); rintro e w4 ⟨rfl, h4, b4⟩)
      | (go_at_call 16; go_fit (hCh.out _); rintro e w5 ⟨rfl, b5⟩)
      | fail)
    go_ret3
    obtain ⟨q1, q2⟩ := hcl.out _ _ _ _ h1 h2 h3 b1 b2 b3 b4
    exact ⟨rfl, by first | exact q1.trans (b5.mono q2) | (rw [hp]; exact q1.trans (b5.mono q2))⟩
  | true =>
    rw [if_pos rfl] at hCh
    by_cases hC : C = s
    · subst hC
      simp only [decide_true, Bool.and_self, if_true]
      go_enter Try.func23, Try.ntmps23
      go_wp2_with (first
        | (go_at_call 39; go_fit hT0.out; rintro e w1 ⟨rfl, h1, b1⟩)
        | (go_at_call 40; go_fit (hT1.out _ h1); rintro e w2 ⟨rfl, h2, b2⟩)
        | (go_at_call 40; go_fit (hT2.out _ h2); rintro e w3 ⟨rfl, h3, b3⟩)
        | (go_at_call 43; go_fit (hT3.out _ h3); rintro e w4 ⟨rfl, h4, b4⟩)
        | (go_at_call 16; go_fit (hCh.out _); rintro e w5 ⟨rfl, b5⟩)
        | fail)
      go_ret3
      obtain ⟨q1, q2⟩ := hcl.out _ _ _ _ h1 h2 h3 b1 b2 b3 b4
      exact ⟨rfl, by first | exact q1.trans (b5.mono q2) | (rw [hp]; exact q1.trans (b5.mono q2))⟩
    · have hne := bytes_ne' hC
      rw [decide_eq_false hC]
      clear hC
      go_enter Try.func23, Try.ntmps23
      go_wp2_with (first
        | (go_at_call 39; go_fit hT0.out; rintro e w1 ⟨rfl, h1, b1⟩)
        | (go_at_call 40; go_fit (hT1.out _ h1); rintro e w2 ⟨rfl, h2, b2⟩)
        | (go_at_call 40; go_fit (hT2.out _ h2); rintro e w3 ⟨rfl, h3, b3⟩)
        | (go_at_call 43; go_fit (hT3.out _ h3); rintro e w4 ⟨rfl, h4, b4⟩)
        | (go_at_call 16; go_fit (hCh.out _); rintro e w5 ⟨rfl, b5⟩)
        | fail)
      go_ret3
      obtain ⟨q1, q2⟩ := hcl.out _ _ _ _ h1 h2 h3 b1 b2 b3 b4
      exact ⟨rfl, by first | exact q1.trans (b5.mono q2) | (rw [hp]; exact q1.trans (b5.mono q2))⟩
/-! ### Kinds -/
def kindV (s : ByteArray) : Nat := if isIdx s then 73 else if isLeaf s then 76 else if isLink s.data.toList then 67 else 0
theorem head_idx {s : ByteArray} (h : isIdx s = true) : s.size = 128 ∧ s.data.toList.take 1 = [73] := by
  simp only [isIdx, Bool.and_eq_true, decide_eq_true_eq, beq_iff_eq] at h
  exact h.1.1
theorem head_leaf {s : ByteArray} (h : isLeaf s = true) : s.size = 128 ∧ s.data.toList.take 1 = [76] := by
  simp only [isLeaf, Bool.and_eq_true, decide_eq_true_eq, beq_iff_eq] at h
  exact h.1
theorem head_link {s : ByteArray} (h : isLink s.data.toList = true) : s.size = 128 ∧ s.data.toList.take 1 = [67] := by
  simp only [isLink, Bool.and_eq_true, decide_eq_true_eq, beq_iff_eq] at h
  exact ⟨h.1.1.1, h.1.1.2⟩
theorem head_byte {s : ByteArray} {c : UInt8} (h : s.size = 128 ∧ s.data.toList.take 1 = [c]) : ∀ hb, (s[0]'hb).toNat = c.toNat := fun hb => by
  have e0 := at_take (s := s) (i := 0) hb
  rw [List.drop_zero, h.2] at e0
  simp at e0
  rw [e0]
/-- A page is of one kind, or of none. -/
theorem one_kind (s : ByteArray) : (isIdx s = true → isLeaf s = false ∧ isLink s.data.toList = false) ∧ (isLeaf s = true → isLink s.data.toList = false) := by
  refine ⟨fun h => ⟨?_, ?_⟩, fun h => ?_⟩
  · cases e : isLeaf s with
    | false => rfl
    | true =>
      have := (head_idx h).2.symm.trans (head_leaf e).2
      simp at this
  · cases e : isLink s.data.toList with
    | false => rfl
    | true =>
      have := (head_idx h).2.symm.trans (head_link e).2
      simp at this
  · cases e : isLink s.data.toList with
    | false => rfl
    | true =>
      have := (head_leaf h).2.symm.trans (head_link e).2
      simp at this
theorem kind_at (s : ByteArray) (h : (isIdx s || isLeaf s || isLink s.data.toList) = true) : s.size = 128 ∧ ∀ hb, (s[0]'hb).toNat = kindV s := by
  unfold kindV
  cases h1 : isIdx s with
  | true => exact ⟨(head_idx h1).1, head_byte (head_idx h1)⟩
  | false =>
    cases h2 : isLeaf s with
    | true => exact ⟨(head_leaf h2).1, head_byte (head_leaf h2)⟩
    | false =>
      cases h3 : isLink s.data.toList with
      | true => exact ⟨(head_link h3).1, head_byte (head_link h3)⟩
      | false => rw [h1, h2, h3] at h; cases h
theorem kind_no (s : ByteArray) (h : (isIdx s || isLeaf s || isLink s.data.toList) = false) : kindV s = 0 := by
  unfold kindV
  cases h1 : isIdx s with
  | true => rw [h1] at h; cases h
  | false =>
    cases h2 : isLeaf s with
    | true => rw [h1, h2] at h; cases h
    | false =>
      cases h3 : isLink s.data.toList with
      | true => rw [h1, h2, h3] at h; cases h
      | false => rfl
set_option maxHeartbeats 1000000 in
theorem kind_any (s : ByteArray) (w : World) (hs : s.size ≤ 1000000000) : Calls Try.prog 27 #[.string s] w fun e w' => e = .returned (.int .u8 (kindV s)) ∧ Below w.heap.size w w' := by
  have h1 : Hid (∀ W, Calls Try.prog 19 #[.string s] W fun e w' => ∃ v, e = .returned (.tuple #[v, .bool (isIdx s)]) ∧ Below W.heap.size W w') := fun W => (slots_any s W hs).mono fun e w' ⟨v, h, _, B⟩ => ⟨v, h, B⟩
  have h2 : Hid (∀ W, Calls Try.prog 21 #[.string s] W fun e w' => ∃ v, e = .returned (.tuple #[v, .bool (isLeaf s)]) ∧ Below W.heap.size W w') := fun W => (cells_any s W hs).mono fun e w' ⟨v, h, _, B⟩ => ⟨v, h, B⟩
  have h3 : Hid (∀ W, Calls Try.prog 23 #[.string s] W fun e w' => ∃ a b, e = .returned (.tuple #[.int .i64 a, .string b, .bool (isLink s.data.toList)]) ∧ Below W.heap.size W w') := fun W => (link_any s W hs).mono fun e w' ⟨h, B⟩ => ⟨_, _, h, B⟩
  have hy := kind_at s
  have hn := kind_no s
  cases k : (isIdx s || isLeaf s || isLink s.data.toList) with
  | true =>
    obtain ⟨hz, hb⟩ := hy k
    have h0 : 0 < s.size := by omega
    have h00 : (0 : Int) < s.size := by omega
    clear hz hy hn
    generalize kindV s = K at *
    generalize isIdx s = x at *
    generalize isLeaf s = y at *
    generalize isLink s.data.toList = z at *
    cases x with
    | true =>
      clear k
      go_enter Try.func27, Try.ntmps27
      go_wp2_with (first
        | (go_at_call 19; go_fit (h1.out _); rintro e w1 ⟨v, rfl, B1⟩)
        | (go_at_call 21; go_fit (h2.out _); rintro e w2 ⟨v2, rfl, B2⟩)
        | (go_at_call 23; go_fit (h3.out _); rintro e w3 ⟨a, b, rfl, B3⟩)
        | fail)
      go_ret
      exact ⟨rfl, on_three B1 B2 B3⟩
    | false =>
      cases y with
      | true =>
        clear k
        go_enter Try.func27, Try.ntmps27
        go_wp2_with (first
          | (go_at_call 19; go_fit (h1.out _); rintro e w1 ⟨v, rfl, B1⟩)
          | (go_at_call 21; go_fit (h2.out _); rintro e w2 ⟨v2, rfl, B2⟩)
          | (go_at_call 23; go_fit (h3.out _); rintro e w3 ⟨a, b, rfl, B3⟩)
          | fail)
        go_ret
        exact ⟨rfl, on_three B1 B2 B3⟩
      | false =>
        obtain rfl : z = true := by simpa using k
        clear k
        go_enter Try.func27, Try.ntmps27
        go_wp2_with (first
          | (go_at_call 19; go_fit (h1.out _); rintro e w1 ⟨v, rfl, B1⟩)
          | (go_at_call 21; go_fit (h2.out _); rintro e w2 ⟨v2, rfl, B2⟩)
          | (go_at_call 23; go_fit (h3.out _); rintro e w3 ⟨a, b, rfl, B3⟩)
          | fail)
        go_ret
        exact ⟨rfl, on_three B1 B2 B3⟩
  | false =>
    rw [hn k]
    simp only [Bool.or_eq_false_iff] at k
    obtain ⟨⟨k1, k2⟩, k3⟩ := k
    rw [k1] at h1
    rw [k2] at h2
    rw [k3] at h3
    clear hy hn k1 k2 k3
    go_enter Try.func27, Try.ntmps27
    go_wp2_with (first
      | (go_at_call 19; go_fit (h1.out _); rintro e w1 ⟨v, rfl, B1⟩)
      | (go_at_call 21; go_fit (h2.out _); rintro e w2 ⟨v2, rfl, B2⟩)
      | (go_at_call 23; go_fit (h3.out _); rintro e w3 ⟨a, b, rfl, B3⟩)
      | fail)
    go_ret
    exact ⟨rfl, on_three B1 B2 B3⟩
end Go.Proofs.Ytjcocmoidboamaa
