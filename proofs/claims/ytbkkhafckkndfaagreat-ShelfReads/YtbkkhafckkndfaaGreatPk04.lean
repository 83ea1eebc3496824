/-
  An index's page, read again: its slots. No walk here. Package sheet's Index: slots in memory, as a page. The document's own Leaf: cells in memory, as a page. A leaf's page, read again: its cells. No walk here. Package sheet's Leaf: cells in memory, as a page. A cell that is taken off a page (package sheet's pieces.cell). Package sheet's Slots, Chain and Link: a page's slots as a new list; a piece as a page, and back.
-/
import Derived.Test.YtbkkhafckkndfaaGreatPk03
namespace Go.Proofs.YtbkkhafckkndfaaGreat
open Go Go.RowKit

theorem flat_drop (S : List Sl) : ∀ k, (S.flatMap slB).drop (6 * k) = (S.drop k).flatMap slB := by
  induction S with
  | nil => intro k; simp
  | cons s S ih =>
    intro k
    cases k with
    | zero => rfl
    | succ k =>
      rw [List.flatMap_cons, List.drop_append, slB_len, List.drop_of_length_le (by rw [slB_len]; omega), List.nil_append, show 6 * (k + 1) - 6 = 6 * k by omega, ih, List.drop_succ_cons]
theorem idx_drop (S : List Sl) (k : Nat) (_hk : k ≤ S.length) : (idxL S).drop (2 + 6 * k) = (S.drop k).flatMap slB ++ List.replicate (128 - (idxH S S.length).length) 0 := by
  have e : idxL S = (73 :: digs S.length 1) ++ (S.flatMap slB ++ List.replicate (128 - (idxH S S.length).length) 0) := by
    simp [idxL, padL, idxH]
  have hl : (73 :: digs S.length 1).length = 2 := by simp [digs_len]
  rw [e, List.drop_append, List.drop_of_length_le (by omega), hl, List.nil_append, show 2 + 6 * k - 2 = 6 * k by omega, List.drop_append_of_le_length (by rw [flat_len]; omega), flat_drop]
theorem idx_slot {S : List Sl} (h : idxOk S = true) {k : Nat} (hk : k < S.length) : slAt (txt (idxL S)) k = S[k] := by
  have hok : slOk S k = true := by
    simp only [idxOk, Bool.and_eq_true, List.all_eq_true] at h
    exact h.2 k (List.mem_range.2 hk)
  have e : S.getD k ⟨0, 0⟩ = S[k] := by simp [List.getD, hk]
  simp only [slOk, Bool.and_eq_true] at hok
  rw [e] at hok
  have h1 := (keyB_iff _).1 hok.1.1
  have h2 := (pageB_iff _).1 hok.1.2
  have hd := idx_drop S k (by omega)
  rw [List.drop_eq_getElem_cons hk, List.flatMap_cons] at hd
  generalize S[k] = x at *
  obtain ⟨K, Q⟩ := x
  dsimp only at h1 h2
  have d6 : (idxL S).drop (6 + 6 * k) = ((idxL S).drop (2 + 6 * k)).drop 4 := by rw [List.drop_drop]; congr 1; omega
  unfold slAt
  rw [numR_ext, numR_ext, list_txt, show 6 + 6 * k - (2 + 6 * k) = 4 by omega, show 8 + 6 * k - (6 + 6 * k) = 2 by omega, d6, hd]
  simp only [slB, List.append_assoc]
  rw [List.take_append_of_le_length (by rw [digs_len]; omega), List.take_of_length_le (by rw [digs_len]; omega), List.drop_append_of_le_length (by rw [digs_len]; omega), List.drop_of_length_le (by rw [digs_len]; omega), List.nil_append,
    List.take_append_of_le_length (by rw [digs_len]; omega), List.take_of_length_le (by rw [digs_len]; omega), val_digs 4 _ (by omega), val_digs 2 _ (by omega), wrap_small (by omega), wrap_small (by omega)]
  simp only [Sl.mk.injEq]
  omega
theorem idx_cnt {S : List Sl} (h : S.length ≤ 21) : cntS (txt (idxL S)) = S.length := by
  have e : (idxL S).drop 1 = digs S.length 1 ++ (S.flatMap slB ++ List.replicate (128 - (idxH S S.length).length) 0) := by
    simp only [idxL, padL, idxH, List.cons_append, List.drop_succ_cons, List.drop_zero, List.take_length, List.append_assoc]
  rw [cntS, list_txt, e, List.take_append_of_le_length (by rw [digs_len]; omega), List.take_of_length_le (by rw [digs_len]; omega), val_digs 1 _ (by omega)]
/-- What was laid is read as it was. -/
theorem idx_back {S : List Sl} (h : idxOk S = true) : isIdx (txt (idxL S)) = true ∧ idxS (txt (idxL S)) = S := by
  have hn : S.length ≤ 21 := by
    simp only [idxOk, Bool.and_eq_true, decide_eq_true_eq] at h
    exact h.1
  have hc := idx_cnt hn
  have hr : rawS (txt (idxL S)) S.length = S := by
    apply List.ext_getElem
    · rw [rawS_len]
    · intro i h1 h2
      simp only [rawS, List.getElem_map, List.getElem_range]
      exact idx_slot h h2
  have h1 : isIdx (txt (idxL S)) = true := by
    have ht : (idxL S).take 1 = [73] := by simp only [idxL, padL, idxH, List.cons_append, List.take_succ_cons, List.take_zero]
    unfold isIdx
    rw [hc, hr, h, list_txt, ht, txt_size, idxL_len hn]
    simp [hn]
  refine ⟨h1, ?_⟩
  unfold idxS
  rw [if_pos h1, hc, hr]
end Go.Proofs.YtbkkhafckkndfaaGreat

namespace Go.Proofs.YtbkkhafckkndfaaGreat
open Go Go.RowKit

theorem follows_any (key last : Int) (w : World) : Calls Tryz.prog 73 #[.int .i64 key, .int .i64 last] w fun e w' => e = .returned (.bool (decide (last < key) && decide (key ≤ 2147483647))) ∧ w' = w := by
  obtain ⟨k, hk⟩ : ∃ k, (decide (last < key) && decide (key ≤ 2147483647)) = k := ⟨_, rfl⟩
  rw [hk]
  replace hk : Hid ((decide (last < key) && decide (key ≤ 2147483647)) = k) := hk
  go_enter Tryz.func73, Tryz.ntmps73
  go_wp2
  all_goals
    go_ret
    refine ⟨ret_bool ?_, rfl⟩
    rw [← hk.out]
    simp
    omega
theorem isPage_any (n : Int) (w : World) : Calls Tryz.prog 77 #[.int .i64 n] w fun e w' => e = .returned (.bool (pageB n)) ∧ w' = w := by
  obtain ⟨k, hk⟩ : ∃ k, pageB n = k := ⟨_, rfl⟩
  rw [hk]
  replace hk : Hid (pageB n = k) := hk
  go_enter Tryz.func77, Tryz.ntmps77
  go_wp2
  all_goals
    go_ret
    refine ⟨ret_bool ?_, rfl⟩
    rw [← hk.out]
    unfold pageB
    simp
    omega
/-- The key ahead of the k-th slot. -/
def lastS (S : List Sl) : Nat → Int
  | 0 => -1
  | k + 1 => (S.getD k ⟨0, 0⟩).key
theorem slOk_last {S : List Sl} {k : Nat} (h : ∀ j, j < k → slOk S j = true) : slOk S k = ((decide (lastS S k < (S.getD k ⟨0, 0⟩).key) && decide ((S.getD k ⟨0, 0⟩).key ≤ 2147483647)) && pageB (S.getD k ⟨0, 0⟩).page) := by
  cases k with
  | zero =>
    rw [slOk_zero]
    congr 1
    rw [Bool.eq_iff_iff, keyB_iff]
    simp [lastS]
    omega
  | succ k =>
    have h1 := h k (by omega)
    have hk : keyB (S.getD k ⟨0, 0⟩).key = true := by
      simp only [slOk, Bool.and_eq_true] at h1
      exact h1.1.1
    have hk := (keyB_iff _).1 hk
    rw [slOk_succ, Bool.eq_iff_iff]
    simp only [Bool.and_eq_true, decide_eq_true_eq, keyB_iff, lastS]
    constructor
    · rintro ⟨⟨h1, h2⟩, h3⟩; exact ⟨⟨decide_eq_true h3, h1.2⟩, h2⟩
    · rintro ⟨⟨h1, h2⟩, h3⟩; have h1 := of_decide_eq_true h1; exact ⟨⟨⟨by omega, h2⟩, h3⟩, h1⟩
theorem bt_lit2 (w : World) (x : UInt8) (n : Nat) (c : Int) (hc : c = (n : Int) % 256) : Bt w (w.alloc (.cells #[.int .u8 x.toNat, .int .u8 c] 5)) (.slice (some ⟨w.heap.size, 0, none⟩) 2 2) (x :: digs n 1) := by
  refine ⟨?_, (Below.refl _ w).alloc (Nat.le_refl _) _⟩
  have := World.ownsRow_lit (e := 5) (base := w.heap.size) (size := 1) w #[.int .u8 x.toNat, .int .u8 c] 2 (by omega) (by have : maxLen = 9223372036854775807 := rfl; omega) rfl
  have e : u8V (x :: digs n 1) = [.int .u8 x.toNat, .int .u8 c] := by rw [hc]; simp [u8V, digs]
  have el : (x :: digs n 1).length = 2 := by simp [digs_len]
  rw [e, el]
  exact this
set_option maxRecDepth 10000 in
set_option maxHeartbeats 4000000 in
theorem index_any (S : List Sl) (a : Option Addr) (cap : Nat) (w : World) (hS : SlotsAt w a S) (hm : S.length < 1000000) : Calls Tryz.prog 50 #[.slice a S.length cap] w fun e w' => e = .returned (.tuple #[.string (idxV S), .bool (idxOk S)]) ∧ Below w.heap.size w w' := by
  by_cases hn : 21 < S.length
  · have hni : (21 : Int) < S.length := by omega
    unfold idxV
    rw [idx_long hn, if_neg (by decide)]
    clear hn hS
    go_enter Tryz.func50, Tryz.ntmps50
    go_wp2
    go_ret2
    exact ⟨rfl, Below.refl _ _⟩
  have hni : ¬ (21 : Int) < S.length := by omega
  obtain ⟨n, hN⟩ : ∃ n, S.length = n := ⟨_, rfl⟩
  have hAll : Hid ((∀ k, k < n → slOk S k = true) → idxV S = txt (padL (idxH S n)) ∧ idxOk S = true) := fun h => by
    have := idx_yes (by omega) (fun k hk => h k (by omega))
    refine ⟨?_, this⟩
    unfold idxV idxL
    rw [this, if_pos rfl, hN]
  have hNone : Hid (∀ k, k < n → slOk S k = false → Ending.returned (.tuple #[.string ByteArray.empty, .bool false]) = Ending.returned (.tuple #[.string (idxV S), .bool (idxOk S)])) := fun k hk h => by
    unfold idxV
    rw [idx_no (by omega) h, if_neg (by decide)]
  have hLen : Hid (∀ k, k ≤ n → (idxH S k).length = 2 + 6 * k) := fun k hk => idxH_len S k (by omega)
  have h0 : Hid (idxH S 0 = 73 :: digs n 1) := by
    show _ = _
    rw [← hN]
    simp [idxH]
  rw [hN]
  have hni : ¬ (21 : Int) < n := by omega
  have hNN : Hid (S.length = n) := hN
  have hn21 : n ≤ 21 := by omega
  clear hN hn hm
  have hB0 := bt_lit2 w 73 n n (by omega)
  rw [← h0.out] at hB0
  go_enter Tryz.func50, Tryz.ntmps50
  go_wp2
  go_loopw [4, 5, 17] (fun b last i wr => ∃ (k : Nat) (v : Value), k ≤ n ∧ i = .int .i64 k ∧ b = v ∧ last = .int .i64 (lastS S k) ∧ (∀ j, j < k → slOk S j = true) ∧ Bt w wr v (idxH S k)) (fun _ _ i _ => n - (intOf i).toNat)
  case atStart => exact ⟨0, _, by omega, rfl, rfl, rfl, fun j hj => absurd hj (by omega), hB0⟩
  case round =>
    clear hB0
    obtain ⟨k, v, hk, rfl, rfl, rfl, hok, hb⟩ := hrel
    by_cases hlt : k < n
    · have hki : (k : Int) < n := by omega
      obtain ⟨b, off, rfl, hcs⟩ := hS.resolve_left (fun e => by have := hNN.out; rw [e] at this; simp at this; omega)
      have hb0 := hcs k (by rw [hNN.out]; exact hlt)
      have hsl := slOk_last hok
      have hup := idxH_up S k (by rw [hNN.out]; exact hlt)
      have hls : (S.getD k ⟨0, 0⟩).key = lastS S (k + 1) := rfl
      obtain ⟨K, hK0⟩ : ∃ K, (S.getD k ⟨0, 0⟩).key = K := ⟨_, rfl⟩
      obtain ⟨Q, hQ0⟩ : ∃ Q, (S.getD k ⟨0, 0⟩).page = Q := ⟨_, rfl⟩
      obtain ⟨c0, c1⟩ := hb0
      have c0 := below_cell hb.bel c0
      have c1 := below_cell hb.bel c1
      rw [hK0] at c0 hsl hup hls
      rw [hQ0] at c1 hsl hup
      clear hcs
      have hF : Hid (∀ W, Calls Tryz.prog 73 #[.int .i64 K, .int .i64 (lastS S k)] W fun e w' => e = .returned (.bool (decide (lastS S k < K) && decide (K ≤ 2147483647))) ∧ w' = W) := fun W => follows_any K _ W
      have hP : Hid (∀ W, Calls Tryz.prog 77 #[.int .i64 Q] W fun e w' => e = .returned (.bool (pageB Q)) ∧ w' = W) := fun W => isPage_any Q W
      cases hf : (decide (lastS S k < K) && decide (K ≤ 2147483647)) with
      | false =>
        rw [hf] at hF hsl
        have HE : Hid _ := hNone.out k hlt (by rw [hsl]; rfl)
        clear hf hsl hup hls hS hok hAll hNone
        go_wp2_with (first
          | (go_at_call 73; go_fit (hF.out _); rintro e w1 ⟨rfl, rfl⟩)
          | fail)
        go_ret2
        exact ⟨HE.out, (hb.grew ((Grew.refl _).alloc _ _)).bel⟩
      | true =>
        rw [hf] at hF hsl
        cases hp : pageB Q with
        | false =>
          rw [hp] at hP hsl
          have HE : Hid _ := hNone.out k hlt (by rw [hsl]; rfl)
          clear hf hsl hup hls hS hok hAll hNone hp
          go_wp2_with (first
            | (go_at_call 73; go_fit (hF.out _); rintro e w1 ⟨rfl, rfl⟩)
            | (go_at_call 77; go_fit (hP.out _); rintro e w1 ⟨rfl, rfl⟩)
            | fail)
          go_ret2
          exact ⟨HE.out, (hb.grew ((Grew.refl _).alloc _ _)).bel⟩
        | true =>
          rw [hp] at hP hsl
          have hcur : Hid (∀ j, j < k + 1 → slOk S j = true) := fun j hj => by
            by_cases e : j = k
            · rw [e, hsl]; rfl
            · exact hok j (by omega)
          have hK : lastS S k < K ∧ K ≤ 2147483647 := by simpa using hf
          have hKge : 0 ≤ K := by
            have := hcur.out k (by omega)
            simp only [slOk, Bool.and_eq_true] at this
            have := (keyB_iff _).1 this.1.1
            omega
          have hQ := (pageB_iff _).1 hp
          obtain ⟨Kn, rfl⟩ := Int.eq_ofNat_of_zero_le hKge
          obtain ⟨Qn, rfl⟩ := Int.eq_ofNat_of_zero_le (show 0 ≤ Q by omega)
          have hl := hLen.out k hk
          have hz : ∀ i, u4.ownBlock = some i → i < wr.heap.size := fun i e => (hb.row.lt i e).2
          replace hls : Hid (((Kn : Nat) : Int) = lastS S (k + 1)) := hls
          replace hup : Hid (idxH S (k + 1) = idxH S k ++ digs Kn 4 ++ digs Qn 2) := by
            rw [Int.toNat_natCast, Int.toNat_natCast] at hup
            exact hup
          have hbA : Bt w (wr.alloc (.cells #[.int .i64 Kn, .int .i64 Qn] 104)) u4 (idxH S k) := hb.grew ((Grew.refl _).alloc _ _)
          have z0 : (wr.alloc (.cells #[.int .i64 Kn, .int .i64 Qn] 104)).cell? ⟨wr.heap.size, 0, none⟩ = some (.int .i64 Kn) := by
            rw [cell_of_row _ _ _ _ _ _ (heap_alloc_new _ _)]; rfl
          have z1 : (wr.alloc (.cells #[.int .i64 Kn, .int .i64 Qn] 104)).cell? ⟨wr.heap.size, 1, none⟩ = some (.int .i64 Qn) := by
            rw [cell_of_row _ _ _ _ _ _ (heap_alloc_new _ _)]; rfl
          have nz : u4.ownBlock ≠ some wr.heap.size := fun e => absurd (hz _ e) (Nat.lt_irrefl _)
          clear hf hsl hS hok hAll hNone hp hz
          go_wp2_with (first
            | (go_at_call 73; go_fit (hF.out _); rintro e w1 ⟨rfl, rfl⟩)
            | (go_at_call 77; go_fit (hP.out _); rintro e w1 ⟨rfl, rfl⟩)
            | (go_at_call 78; go_fit (abig_any w _ _ _ Kn 4 (by omega) (by omega) (by omega) hbA); rintro e w1 ⟨v1, rfl, hb1, ho1⟩; obtain ⟨y0, n1⟩ := ho1.cell z0 nz; obtain ⟨y1, _⟩ := ho1.cell z1 nz)
            | (go_at_call 78; go_fit (abig_any w _ _ _ Qn 2 (by omega) (by omega) (by rw [List.length_append, digs_len]; omega) hb1); rintro e w2 ⟨v2, rfl, hb2, ho2⟩; obtain ⟨x0, n2⟩ := ho2.cell y0 n1)
            | fail)
          refine ⟨⟨k + 1, v2, hlt, by simp, rfl, congrArg (Value.int .i64) hls.out, hcur.out, ?_⟩, meas_up hlt⟩
          rw [hup.out]
          exact hb2
    · have hki : ¬ (k : Int) < n := by omega
      obtain rfl : k = n := by omega
      obtain ⟨v1, v2⟩ := hAll.out hok
      replace v1 : Hid (idxV S = txt (padL (idxH S k))) := v1
      replace v2 : Hid (idxOk S = true) := v2
      have hl := hLen.out k (by omega)
      clear hok hAll
      go_wp2_with (first | (go_at_call 76; go_fit (filled_any w _ _ _ hb (by intro e; rw [e] at hl; simp at hl; omega) (by omega)); rintro e w1 ⟨rfl, B⟩) | fail)
      go_ret2
      exact ⟨by rw [v1.out, v2.out]; rfl, hb.bel.trans (B.mono hb.bel.size)⟩
end Go.Proofs.YtbkkhafckkndfaaGreat

namespace Go.Proofs.YtbkkhafckkndfaaGreat
open Go Go.RowKit

structure Ce where
  key : Int
  size : Int
  page : Int
  bytes : ByteArray
def noCe : Ce := ⟨0, 0, 0, ByteArray.empty⟩
def ceB (c : Ce) : List UInt8 := digs c.key.toNat 4 ++ digs c.size.toNat 2 ++ (if c.size ≤ 24 then c.bytes.data.toList else digs c.page.toNat 2)
theorem not_empty {T : ByteArray} (h : ¬ T = ByteArray.empty) : T.toList.isEmpty = false := by
  rw [ByteArray.toList_eq]
  obtain ⟨⟨l⟩⟩ := T
  cases l with
  | nil => exact absurd rfl h
  | cons a l => rfl
/-- A cell that may be, but for the order. -/
def ceGood (c : Ce) : Bool := keyB c.key && decide (0 ≤ c.size ∧ c.size ≤ 900) && (if c.size ≤ 24 then decide (c.page = 0 ∧ (c.bytes.size : Int) = c.size) else pageB c.page && decide (c.bytes = ByteArray.empty))
theorem good_key {c : Ce} (h : keyB c.key = false) : ceGood c = false := by unfold ceGood; rw [h]; rfl
theorem good_size {c : Ce} (h : c.size < 0 ∨ 900 < c.size) : ceGood c = false := by
  unfold ceGood
  rw [decide_eq_false (p := 0 ≤ c.size ∧ c.size ≤ 900) (by omega)]
  simp
theorem good_page {c : Ce} (hz : c.size ≤ 24) (h : ¬ c.page = 0) : ceGood c = false := by
  unfold ceGood
  rw [if_pos hz, decide_eq_false (p := c.page = 0 ∧ _) (fun e => h e.1)]
  simp
theorem good_len {c : Ce} (hz : c.size ≤ 24) (h : ¬ (c.bytes.size : Int) = c.size) : ceGood c = false := by
  unfold ceGood
  rw [if_pos hz, decide_eq_false (p := c.page = 0 ∧ _) (fun e => h e.2)]
  simp
theorem good_pageB {c : Ce} (hz : ¬ c.size ≤ 24) (h : pageB c.page = false) : ceGood c = false := by
  unfold ceGood
  rw [if_neg hz, h]
  simp
theorem good_bytes {c : Ce} (hz : ¬ c.size ≤ 24) (h : ¬ c.bytes = ByteArray.empty) : ceGood c = false := by
  unfold ceGood
  rw [if_neg hz, decide_eq_false h]
  simp
theorem good_in {c : Ce} (hk : keyB c.key = true) (h0 : 0 ≤ c.size) (hz : c.size ≤ 24) (hp : c.page = 0) (hl : (c.bytes.size : Int) = c.size) : ceGood c = true := by
  unfold ceGood
  rw [if_pos hz, hk, decide_eq_true (p := 0 ≤ c.size ∧ c.size ≤ 900) ⟨h0, by omega⟩, decide_eq_true (p := c.page = 0 ∧ _) ⟨hp, hl⟩]
  rfl
theorem good_out {c : Ce} (hk : keyB c.key = true) (hz : ¬ c.size ≤ 24) (h9 : c.size ≤ 900) (hp : pageB c.page = true) (hb : c.bytes = ByteArray.empty) : ceGood c = true := by
  unfold ceGood
  rw [if_neg hz, hk, hp, decide_eq_true (p := 0 ≤ c.size ∧ c.size ≤ 900) ⟨by omega, h9⟩, decide_eq_true hb]
  rfl
def ceOk (C : List Ce) (i : Nat) : Bool := ceGood (C.getD i noCe) && (decide (i = 0) || decide ((C.getD (i - 1) noCe).key < (C.getD i noCe).key))
theorem ceOk_zero (C : List Ce) : ceOk C 0 = ceGood (C.getD 0 noCe) := by simp [ceOk]
theorem ceOk_succ (C : List Ce) (k : Nat) : ceOk C (k + 1) = (ceGood (C.getD (k + 1) noCe) && decide ((C.getD k noCe).key < (C.getD (k + 1) noCe).key)) := by simp [ceOk]
def leafH (C : List Ce) (n : Nat) : List UInt8 := 76 :: (digs C.length 1 ++ (C.take n).flatMap ceB)
theorem leafH_up (C : List Ce) (n : Nat) (h : n < C.length) : leafH C (n + 1) = leafH C n ++ ceB (C.getD n noCe) := by
  have e : C.getD n noCe = C[n] := by simp [List.getD, h]
  rw [e, leafH, List.take_succ_eq_append_getElem h, List.flatMap_append]
  simp [leafH]
def leafOk (C : List Ce) : Bool := decide (C.length ≤ 200) && (List.range C.length).all (ceOk C) && decide ((leafH C C.length).length ≤ 128)
def leafL (C : List Ce) : List UInt8 := padL (leafH C C.length)
def leafV (C : List Ce) : ByteArray := if leafOk C then txt (leafL C) else ByteArray.empty
theorem leaf_no {C : List Ce} {k : Nat} (hk : k < C.length) (h : ceOk C k = false) : leafOk C = false := by
  cases e : leafOk C with
  | false => rfl
  | true =>
    simp only [leafOk, Bool.and_eq_true, List.all_eq_true] at e
    have := e.1.2 k (List.mem_range.2 hk)
    rw [h] at this
    cases this
theorem leaf_long {C : List Ce} (hn : 200 < C.length) : leafOk C = false := by
  unfold leafOk
  have : ¬ C.length ≤ 200 := by omega
  simp [this]
theorem leaf_end {C : List Ce} (hn : C.length ≤ 200) (h : ∀ k, k < C.length → ceOk C k = true) : leafOk C = decide ((leafH C C.length).length ≤ 128) := by
  have : (List.range C.length).all (ceOk C) = true := by
    simp only [List.all_eq_true]
    exact fun k hk => h k (List.mem_range.1 hk)
  unfold leafOk
  rw [this, decide_eq_true hn]
  simp
/-- Cells that lie in memory. -/
def C4 (w : World) (b : Nat) (K Z Q : Int) (T : ByteArray) : Prop := w.cell? ⟨b, 0, none⟩ = some (.int .i64 K) ∧ w.cell? ⟨b, 1, none⟩ = some (.int .i64 Z) ∧ w.cell? ⟨b, 2, none⟩ = some (.int .i64 Q) ∧ w.cell? ⟨b, 3, none⟩ = some (.string T)
theorem C4.grew {w w' : World} {b : Nat} {K Z Q : Int} {T : ByteArray} (h : C4 w b K Z Q T) (g : Grew w w') : C4 w' b K Z Q T := ⟨g.cell h.1, g.cell h.2.1, g.cell h.2.2.1, g.cell h.2.2.2⟩
theorem cell_new4 (w : World) (a b c d : Value) (t : TypeId) : (w.alloc (.cells #[a, b, c, d] t)).cell? ⟨w.heap.size, 0, none⟩ = some a ∧ (w.alloc (.cells #[a, b, c, d] t)).cell? ⟨w.heap.size, 1, none⟩ = some b ∧ (w.alloc (.cells #[a, b, c, d] t)).cell? ⟨w.heap.size, 2, none⟩ = some c ∧ (w.alloc (.cells #[a, b, c, d] t)).cell? ⟨w.heap.size, 3, none⟩ = some d := by
  refine ⟨?_, ?_, ?_, ?_⟩ <;> rw [cell_of_row _ _ _ _ _ _ (heap_alloc_new _ _)] <;> rfl
def CellAt (w : World) (b o : Nat) (c : Ce) : Prop := w.cell? ⟨b, o, none⟩ = some (.int .i64 c.key) ∧ w.cell? ⟨b, o + 1, none⟩ = some (.int .i64 c.size) ∧ w.cell? ⟨b, o + 2, none⟩ = some (.int .i64 c.page) ∧ w.cell? ⟨b, o + 3, none⟩ = some (.string c.bytes)
theorem CellAt.grew {w w' : World} {b o : Nat} {c : Ce} (h : CellAt w b o c) (g : Grew w w') : CellAt w' b o c := ⟨g.cell h.1, g.cell h.2.1, g.cell h.2.2.1, g.cell h.2.2.2⟩
def CellsAt (w : World) (a : Option Addr) (C : List Ce) : Prop := C = [] ∨ ∃ b off, a = some ⟨b, off, none⟩ ∧ ∀ i, i < C.length → CellAt w b (off + i * 4) (C.getD i noCe)
theorem ceB_len (c : Ce) (h : ceGood c = true) : (ceB c).length ≤ 30 := by
  unfold ceGood at h
  unfold ceB
  by_cases hz : c.size ≤ 24
  · simp only [hz, if_true, Bool.and_eq_true, decide_eq_true_eq] at h
    have : c.bytes.data.toList.length = c.bytes.size := Array.length_toList ..
    simp [hz, digs_len]
    omega
  · simp [hz, digs_len]
theorem leafH_le (C : List Ce) : ∀ n, n ≤ C.length → (∀ j, j < n → ceOk C j = true) → (leafH C n).length ≤ 2 + 30 * n := by
  intro n
  induction n with
  | zero => intro _ _; simp [leafH, digs_len]
  | succ n ih =>
    intro hn h
    have h1 := ih (by omega) (fun j hj => h j (by omega))
    have h2 := h n (by omega)
    simp only [ceOk, Bool.and_eq_true] at h2
    have h3 := ceB_len _ h2.1
    rw [leafH_up C n (by omega), List.length_append]
    omega
set_option maxRecDepth 10000 in
set_option maxHeartbeats 16000000 in
theorem refleaf_any (C : List Ce) (a : Option Addr) (cap : Nat) (w : World) (hS : CellsAt w a C) (hm : C.length < 1000000) : Calls Tryz.prog 41 #[.slice a C.length cap] w fun e w' => e = .returned (.tuple #[.string (leafV C), .bool (leafOk C)]) ∧ Grew w w' := by
  by_cases hn : 200 < C.length
  · have hni : (200 : Int) < C.length := by omega
    unfold leafV
    rw [leaf_long hn, if_neg (by decide)]
    clear hn hS
    go_enter Tryz.func41, Tryz.ntmps41
    go_wp2
    go_ret2
    exact ⟨rfl, Grew.refl _⟩
  have hni : ¬ (200 : Int) < C.length := by omega
  obtain ⟨n, hN⟩ : ∃ n, C.length = n := ⟨_, rfl⟩
  have h1 : Hid (∀ W, Calls Tryz.prog 63 #[.int .i64 (n : Int), .int .i64 1] W fun e w' => e = .returned (.string (txt (digs n 1))) ∧ Grew W w') := fun W => refbig_any n 1 (by omega) (by omega) W
  have hstart : Hid ((⟨#[76]⟩ : ByteArray) ++ txt (digs n 1) = txt (leafH C 0)) := by
    show _ = _
    rw [show (⟨#[76]⟩ : ByteArray) = txt [76] from rfl, txt_append, ← hN]
    simp [leafH]
  have hAll : Hid ((∀ k, k < n → ceOk C k = true) → leafOk C = decide ((leafH C n).length ≤ 128)) := fun h => by
    have := leaf_end (by omega) (fun k hk => h k (by omega))
    rw [this, hN]
  have hNone : Hid (∀ k, k < n → ceOk C k = false → Ending.returned (.tuple #[.string ByteArray.empty, .bool false]) = Ending.returned (.tuple #[.string (leafV C), .bool (leafOk C)])) := fun k hk h => by
    unfold leafV
    rw [leaf_no (by omega) h, if_neg (by decide)]
  have z0 : ¬ 9223372036854775807 < (⟨#[76]⟩ : ByteArray).size + (txt (digs n 1)).size := by rw [txt_size, digs_len]; decide
  have hSz : Hid (∀ k, k ≤ n → (∀ j, j < k → ceOk C j = true) → (txt (leafH C k)).size ≤ 10000) := fun k hk h => by
    have := leafH_le C k (by omega) h
    rw [txt_size]
    omega
  rw [hN]
  have hni : ¬ (200 : Int) < n := by omega
  have hNN : Hid (C.length = n) := hN
  have hn200 : n ≤ 200 := by omega
  clear hN hn hm
  go_enter Tryz.func41, Tryz.ntmps41
  go_wp2_with (first | (go_at_call 63; go_fit (h1.out _); rintro e w1 ⟨rfl, G0⟩) | fail)
  rw [hstart.out]
  go_loopw [4, 5] (fun s i wr => ∃ k : Nat, k ≤ n ∧ i = .int .i64 k ∧ s = .string (txt (leafH C k)) ∧ (∀ j, j < k → ceOk C j = true) ∧ Grew w wr) (fun _ i _ => n - (intOf i).toNat)
  case atStart => exact ⟨0, by omega, rfl, rfl, fun j hj => absurd hj (by omega), G0⟩
  case round =>
    clear G0
    obtain ⟨k, hk, rfl, rfl, hok, hG⟩ := hrel
    have hy := hSz.out k hk hok
    by_cases hlt : k < n
    · have hki : (k : Int) < n := by omega
      obtain ⟨b, off, rfl, hcs⟩ := hS.resolve_left (fun e => by have := hNN.out; rw [e] at this; simp at this; omega)
      have hb := hcs k (by rw [hNN.out]; exact hlt)
      obtain ⟨x, hx⟩ : ∃ x, C.getD k noCe = x := ⟨_, rfl⟩
      rw [hx] at hb
      obtain ⟨K, Z, Q, T⟩ := x
      have hK : Hid (∀ W, _) := fun W => refkey_any K W
      have hP : Hid (∀ W, _) := fun W => refpage_any Q W
      obtain ⟨e0, e1, e2, e3⟩ := hb.grew hG
      dsimp only at e0 e1 e2 e3
      have Z1 : Hid (¬ 9223372036854775807 < (txt (leafH C k)).size + 4 ∧ ¬ 9223372036854775807 < (txt (leafH C k)).size + 4 + 2 ∧ ¬ 9223372036854775807 < (txt (leafH C k)).size + 6) := (by omega : ¬ 9223372036854775807 < (txt (leafH C k)).size + 4 ∧ ¬ 9223372036854775807 < (txt (leafH C k)).size + 4 + 2 ∧ ¬ 9223372036854775807 < (txt (leafH C k)).size + 6)
      have y4 : (txt (digs K.toNat 4)).size = 4 := by rw [txt_size, digs_len]
      have y2 : (txt (digs Z.toNat 2)).size = 2 := by rw [txt_size, digs_len]
      cases k with
      | zero =>
        have e0 : wr.cell? ⟨b, off, none⟩ = some (.int .i64 K) := by simpa using e0
        have e1 : wr.cell? ⟨b, off + 1, none⟩ = some (.int .i64 Z) := by simpa using e1
        have e2 : wr.cell? ⟨b, off + 2, none⟩ = some (.int .i64 Q) := by simpa using e2
        have e3 : wr.cell? ⟨b, off + 3, none⟩ = some (.string T) := by simpa using e3
        have PV : Hid (∀ V, Grew wr V → True) := fun _ _ => trivial
        cases hkb : keyB K with
        | false =>
          rw [hkb] at hK
          have HF : Hid _ := hNone.out 0 hlt (by rw [ceOk_zero, hx]; exact good_key hkb)
          clear hb
          go_upto_region 8 with (fail)
          have hW : Grew w (wr.alloc (.cells #[.int .i64 K, .int .i64 Z, .int .i64 Q, .string T] 82)) := hG.alloc _ _
          have ca := cell_new4 wr (.int .i64 K) (.int .i64 Z) (.int .i64 Q) (.string T) 82
          have cp := PV.out _ ((Grew.refl wr).alloc (#[.int .i64 K, .int .i64 Z, .int .i64 Q, .string T]) 82)
          generalize wr.alloc (.cells #[.int .i64 K, .int .i64 Z, .int .i64 Q, .string T] 82) = W at *
          generalize wr.heap.size = q at *
          obtain ⟨d0, d1, d2, d3⟩ := ca
          clear e0 e1 e2 e3 hG
          go_quiet (first
            | (go_at_call 64; exact Calls.quiet_of_same (hK.out _))
            | fail)
          go_wp2_with (fail)
          go_ret2
          exact ⟨HF.out, hW.drewN _⟩
        | true =>
          rw [hkb] at hK
          have hk1 := (keyB_iff K).1 hkb
          by_cases hz0 : Z < 0
          · have HF : Hid _ := hNone.out (0) hlt (by rw [ceOk_zero, hx, good_size (.inl hz0)])
            clear hb
            go_upto_region 8 with (fail)
            have hW : Grew w (wr.alloc (.cells #[.int .i64 K, .int .i64 Z, .int .i64 Q, .string T] 82)) := hG.alloc _ _
            have ca := cell_new4 wr (.int .i64 K) (.int .i64 Z) (.int .i64 Q) (.string T) 82
            have cp := PV.out _ ((Grew.refl wr).alloc (#[.int .i64 K, .int .i64 Z, .int .i64 Q, .string T]) 82)
            generalize wr.alloc (.cells #[.int .i64 K, .int .i64 Z, .int .i64 Q, .string T] 82) = W at *
            generalize wr.heap.size = q at *
            obtain ⟨d0, d1, d2, d3⟩ := ca
            clear e0 e1 e2 e3 hG
            go_quiet (first
              | (go_at_call 64; exact Calls.quiet_of_same (hK.out _))
              | fail)
            go_wp2_with (fail)
            go_ret2
            exact ⟨HF.out, hW.drewN _⟩
          by_cases hz9 : 900 < Z
          · have HF : Hid _ := hNone.out (0) hlt (by rw [ceOk_zero, hx, good_size (.inr hz9)])
            clear hb
            go_upto_region 8 with (fail)
            have hW : Grew w (wr.alloc (.cells #[.int .i64 K, .int .i64 Z, .int .i64 Q, .string T] 82)) := hG.alloc _ _
            have ca := cell_new4 wr (.int .i64 K) (.int .i64 Z) (.int .i64 Q) (.string T) 82
            have cp := PV.out _ ((Grew.refl wr).alloc (#[.int .i64 K, .int .i64 Z, .int .i64 Q, .string T]) 82)
            generalize wr.alloc (.cells #[.int .i64 K, .int .i64 Z, .int .i64 Q, .string T] 82) = W at *
            generalize wr.heap.size = q at *
            obtain ⟨d0, d1, d2, d3⟩ := ca
            clear e0 e1 e2 e3 hG
            go_quiet (first
              | (go_at_call 64; exact Calls.quiet_of_same (hK.out _))
              | fail)
            go_wp2_with (fail)
            go_ret2
            exact ⟨HF.out, hW.drewN _⟩
          obtain ⟨z, rfl⟩ := Int.eq_ofNat_of_zero_le (a := Z) (by omega)
          have h4 : Hid (∀ W, Calls Tryz.prog 63 #[.int .i64 K, .int .i64 4] W fun e w' => e = .returned (.string (txt (digs K.toNat 4))) ∧ Grew W w') := fun W => by
            have := refbig_any K.toNat 4 (by omega) (by omega) W
            rw [show ((K.toNat : Nat) : Int) = K by omega] at this
            exact this
          have h2 : Hid (∀ W, Calls Tryz.prog 63 #[.int .i64 (z : Int), .int .i64 2] W fun e w' => e = .returned (.string (txt (digs z 2))) ∧ Grew W w') := fun W => refbig_any z 2 (by omega) (by omega) W
          clear y2
          have y2 : (txt (digs z 2)).size = 2 := by rw [txt_size, digs_len]
          by_cases hz2 : z ≤ 24
          · have hz2i : (z : Int) ≤ 24 := by omega
            by_cases hq : Q = 0
            · subst hq
              by_cases hT : T.size = z
              · have hTi : (T.size : Int) = z := by omega
                have hup : Hid (txt (leafH C (0)) ++ txt (digs K.toNat 4) ++ txt (digs z 2) ++ T = txt (leafH C (0 + 1))) := by
                  have e : txt (leafH C (0)) ++ txt (digs K.toNat 4) ++ txt (digs z 2) ++ txt T.data.toList = txt (leafH C (0 + 1)) := by
                    rw [leafH_up C (0) (by rw [hNN.out]; exact hlt), hx, txt_append, txt_append, txt_append]
                    simp [ceB, hz2i]
                  rw [txt_list] at e
                  exact e
                have hcur : Hid (∀ j, j < 0 + 1 → ceOk C j = true) := fun j hj => by
                  obtain rfl : j = 0 := by omega
                  rw [ceOk_zero, hx]
                  exact good_in hkb (Int.natCast_nonneg z) hz2i rfl hTi
                have Z2 : Hid (¬ 9223372036854775807 < (txt (leafH C (0))).size + 4 + 2 + z) := (by omega : ¬ 9223372036854775807 < (txt (leafH C (0))).size + 4 + 2 + z)
                clear hb
                go_upto_region 8 with (fail)
                have hW : Grew w (wr.alloc (.cells #[.int .i64 K, .int .i64 (z : Int), .int .i64 0, .string T] 82)) := hG.alloc _ _
                have ca := cell_new4 wr (.int .i64 K) (.int .i64 (z : Int)) (.int .i64 0) (.string T) 82
                have cp := PV.out _ ((Grew.refl wr).alloc (#[.int .i64 K, .int .i64 (z : Int), .int .i64 0, .string T]) 82)
                generalize wr.alloc (.cells #[.int .i64 K, .int .i64 (z : Int), .int .i64 0, .string T] 82) = W at *
                generalize wr.heap.size = q at *
                obtain ⟨d0, d1, d2, d3⟩ := ca
                clear e0 e1 e2 e3 hG
                go_quiet (first
                  | (go_at_call 64; exact Calls.quiet_of_same (hK.out _))
                  | fail)
                go_upto_region 10 with (fail)
                have hX : Grew w (W.drewN nq) := hW.drewN _
                have dd : C4 (W.drewN nq) q K (z : Int) 0 T := ⟨d0, d1, d2, d3⟩
                clear d0 d1 d2 d3 hW cp
                generalize W.drewN nq = X at *
                have qSlg : Hid (∀ w', Grew X w' → (w'.cell? ⟨q, 0, none⟩ = some (.int .i64 K) ∧ w'.cell? ⟨q, 1, none⟩ = some (.int .i64 (z : Int)))) := fun w' g => ⟨g.cell dd.1, g.cell dd.2.1⟩
                refine kept_region X (by kernel_rfl) (by kernel_rfl) ?_
                refine kept_want ?vlg0 (by rfl) ?ylg0 ?rlg0
                case ylg0 => (intro w' hG; obtain ⟨q0, q1⟩ := qSlg.out w' hG; clear hG; obtain ⟨z1, z2, z3⟩ := Z1.out; go_simp; try (with_reducible rfl))
                simp only [Act.put, List.setIfInBounds_toArray, List.set_cons_zero, List.set_cons_succ]
                refine kept_want ?vlg1 (by rfl) ?ylg1 ?rlg1
                case ylg1 => (intro w' hG; obtain ⟨q0, q1⟩ := qSlg.out w' hG; clear hG; obtain ⟨z1, z2, z3⟩ := Z1.out; go_simp; try (with_reducible rfl))
                simp only [Act.put, List.setIfInBounds_toArray, List.set_cons_zero, List.set_cons_succ]
                refine kept_want ?vlg2 (by rfl) ?ylg2 ?rlg2
                case ylg2 => (intro w' hG; obtain ⟨q0, q1⟩ := qSlg.out w' hG; clear hG; obtain ⟨z1, z2, z3⟩ := Z1.out; go_simp; try (with_reducible rfl))
                simp only [Act.put, List.setIfInBounds_toArray, List.set_cons_zero, List.set_cons_succ]
                refine kept_want ?vlg3 (by rfl) ?ylg3 ?rlg3
                case ylg3 => (intro w' hG; go_simp; refine (h4.out _).mono ?_; rintro e w'' ⟨rfl, U⟩; refine ⟨?_, hG.trans U⟩; with_reducible rfl)
                simp only [Act.put, List.setIfInBounds_toArray, List.set_cons_zero, List.set_cons_succ]
                refine kept_want ?vlg4 (by rfl) ?ylg4 ?rlg4
                case ylg4 => (intro w' hG; obtain ⟨q0, q1⟩ := qSlg.out w' hG; clear hG; obtain ⟨z1, z2, z3⟩ := Z1.out; go_simp; try (with_reducible rfl))
                simp only [Act.put, List.setIfInBounds_toArray, List.set_cons_zero, List.set_cons_succ]
                refine kept_want ?vlg5 (by rfl) ?ylg5 ?rlg5
                case ylg5 => (intro w' hG; obtain ⟨q0, q1⟩ := qSlg.out w' hG; clear hG; obtain ⟨z1, z2, z3⟩ := Z1.out; go_simp; try (with_reducible rfl))
                simp only [Act.put, List.setIfInBounds_toArray, List.set_cons_zero, List.set_cons_succ]
                refine kept_want ?vlg6 (by rfl) ?ylg6 ?rlg6
                case ylg6 => (intro w' hG; obtain ⟨q0, q1⟩ := qSlg.out w' hG; clear hG; obtain ⟨z1, z2, z3⟩ := Z1.out; go_simp; try (with_reducible rfl))
                simp only [Act.put, List.setIfInBounds_toArray, List.set_cons_zero, List.set_cons_succ]
                refine kept_want ?vlg7 (by rfl) ?ylg7 ?rlg7
                case ylg7 => (intro w' hG; go_simp; refine (h2.out _).mono ?_; rintro e w'' ⟨rfl, U⟩; refine ⟨?_, hG.trans U⟩; with_reducible rfl)
                simp only [Act.put, List.setIfInBounds_toArray, List.set_cons_zero, List.set_cons_succ]
                refine kept_want ?vlg8 (by rfl) ?ylg8 ?rlg8
                case ylg8 => (intro w' hG; obtain ⟨q0, q1⟩ := qSlg.out w' hG; clear hG; obtain ⟨z1, z2, z3⟩ := Z1.out; go_simp; try (with_reducible rfl))
                simp only [Act.put, List.setIfInBounds_toArray, List.set_cons_zero, List.set_cons_succ]
                refine kept_want ?vlg9 (by rfl) ?ylg9 ?rlg9
                case ylg9 => (intro w' hG; obtain ⟨q0, q1⟩ := qSlg.out w' hG; clear hG; obtain ⟨z1, z2, z3⟩ := Z1.out; go_simp; try (with_reducible rfl))
                simp only [Act.put, List.setIfInBounds_toArray, List.set_cons_zero, List.set_cons_succ]
                refine kept_nil ?_
                intro V hV
                clear qSlg
                have dv := dd.grew hV
                obtain ⟨d0, d1, d2, d3⟩ := dv
                have hY := hX.trans hV
                clear dd hX hV
                have z4 := Z2.out
                go_wp2_with (fail)
                refine ⟨⟨0 + 1, hlt, by simp, congrArg Value.string hup.out, hcur.out, hY⟩, ?_⟩
                first | exact meas_up hlt | exact zmeas0 hlt | exact zmeas1 hlt
              · have hTi : ¬ (T.size : Int) = z := by omega
                have HF : Hid _ := hNone.out (0) hlt (by rw [ceOk_zero, hx, good_len hz2i hTi])
                clear hb
                go_upto_region 8 with (fail)
                have hW : Grew w (wr.alloc (.cells #[.int .i64 K, .int .i64 (z : Int), .int .i64 0, .string T] 82)) := hG.alloc _ _
                have ca := cell_new4 wr (.int .i64 K) (.int .i64 (z : Int)) (.int .i64 0) (.string T) 82
                have cp := PV.out _ ((Grew.refl wr).alloc (#[.int .i64 K, .int .i64 (z : Int), .int .i64 0, .string T]) 82)
                generalize wr.alloc (.cells #[.int .i64 K, .int .i64 (z : Int), .int .i64 0, .string T] 82) = W at *
                generalize wr.heap.size = q at *
                obtain ⟨d0, d1, d2, d3⟩ := ca
                clear e0 e1 e2 e3 hG
                go_quiet (first
                  | (go_at_call 64; exact Calls.quiet_of_same (hK.out _))
                  | fail)
                go_upto_region 10 with (fail)
                have hX : Grew w (W.drewN nq) := hW.drewN _
                have dd : C4 (W.drewN nq) q K (z : Int) 0 T := ⟨d0, d1, d2, d3⟩
                clear d0 d1 d2 d3 hW cp
                generalize W.drewN nq = X at *
                have qSlh : Hid (∀ w', Grew X w' → (w'.cell? ⟨q, 0, none⟩ = some (.int .i64 K) ∧ w'.cell? ⟨q, 1, none⟩ = some (.int .i64 (z : Int)))) := fun w' g => ⟨g.cell dd.1, g.cell dd.2.1⟩
                refine kept_region X (by kernel_rfl) (by kernel_rfl) ?_
                refine kept_want ?vlh0 (by rfl) ?ylh0 ?rlh0
                case ylh0 => (intro w' hG; obtain ⟨q0, q1⟩ := qSlh.out w' hG; clear hG; obtain ⟨z1, z2, z3⟩ := Z1.out; go_simp; try (with_reducible rfl))
                simp only [Act.put, List.setIfInBounds_toArray, List.set_cons_zero, List.set_cons_succ]
                refine kept_want ?vlh1 (by rfl) ?ylh1 ?rlh1
                case ylh1 => (intro w' hG; obtain ⟨q0, q1⟩ := qSlh.out w' hG; clear hG; obtain ⟨z1, z2, z3⟩ := Z1.out; go_simp; try (with_reducible rfl))
                simp only [Act.put, List.setIfInBounds_toArray, List.set_cons_zero, List.set_cons_succ]
                refine kept_want ?vlh2 (by rfl) ?ylh2 ?rlh2
                case ylh2 => (intro w' hG; obtain ⟨q0, q1⟩ := qSlh.out w' hG; clear hG; obtain ⟨z1, z2, z3⟩ := Z1.out; go_simp; try (with_reducible rfl))
                simp only [Act.put, List.setIfInBounds_toArray, List.set_cons_zero, List.set_cons_succ]
                refine kept_want ?vlh3 (by rfl) ?ylh3 ?rlh3
                case ylh3 => (intro w' hG; go_simp; refine (h4.out _).mono ?_; rintro e w'' ⟨rfl, U⟩; refine ⟨?_, hG.trans U⟩; with_reducible rfl)
                simp only [Act.put, List.setIfInBounds_toArray, List.set_cons_zero, List.set_cons_succ]
                refine kept_want ?vlh4 (by rfl) ?ylh4 ?rlh4
                case ylh4 => (intro w' hG; obtain ⟨q0, q1⟩ := qSlh.out w' hG; clear hG; obtain ⟨z1, z2, z3⟩ := Z1.out; go_simp; try (with_reducible rfl))
                simp only [Act.put, List.setIfInBounds_toArray, List.set_cons_zero, List.set_cons_succ]
                refine kept_want ?vlh5 (by rfl) ?ylh5 ?rlh5
                case ylh5 => (intro w' hG; obtain ⟨q0, q1⟩ := qSlh.out w' hG; clear hG; obtain ⟨z1, z2, z3⟩ := Z1.out; go_simp; try (with_reducible rfl))
                simp only [Act.put, List.setIfInBounds_toArray, List.set_cons_zero, List.set_cons_succ]
                refine kept_want ?vlh6 (by rfl) ?ylh6 ?rlh6
                case ylh6 => (intro w' hG; obtain ⟨q0, q1⟩ := qSlh.out w' hG; clear hG; obtain ⟨z1, z2, z3⟩ := Z1.out; go_simp; try (with_reducible rfl))
                simp only [Act.put, List.setIfInBounds_toArray, List.set_cons_zero, List.set_cons_succ]
                refine kept_want ?vlh7 (by rfl) ?ylh7 ?rlh7
                case ylh7 => (intro w' hG; go_simp; refine (h2.out _).mono ?_; rintro e w'' ⟨rfl, U⟩; refine ⟨?_, hG.trans U⟩; with_reducible rfl)
                simp only [Act.put, List.setIfInBounds_toArray, List.set_cons_zero, List.set_cons_succ]
                refine kept_want ?vlh8 (by rfl) ?ylh8 ?rlh8
                case ylh8 => (intro w' hG; obtain ⟨q0, q1⟩ := qSlh.out w' hG; clear hG; obtain ⟨z1, z2, z3⟩ := Z1.out; go_simp; try (with_reducible rfl))
                simp only [Act.put, List.setIfInBounds_toArray, List.set_cons_zero, List.set_cons_succ]
                refine kept_want ?vlh9 (by rfl) ?ylh9 ?rlh9
                case ylh9 => (intro w' hG; obtain ⟨q0, q1⟩ := qSlh.out w' hG; clear hG; obtain ⟨z1, z2, z3⟩ := Z1.out; go_simp; try (with_reducible rfl))
                simp only [Act.put, List.setIfInBounds_toArray, List.set_cons_zero, List.set_cons_succ]
                refine kept_nil ?_
                intro V hV
                clear qSlh
                have dv := dd.grew hV
                obtain ⟨d0, d1, d2, d3⟩ := dv
                have hY := hX.trans hV
                clear dd hX hV
                go_wp2_with (first | (go_at_call 65; go_fit (hP.out _); rintro e w1 ⟨rfl, rfl⟩) | fail)
                go_ret2
                exact ⟨HF.out, hY⟩
            · have HF : Hid _ := hNone.out (0) hlt (by rw [ceOk_zero, hx, good_page hz2i hq])
              clear hb
              go_upto_region 8 with (fail)
              have hW : Grew w (wr.alloc (.cells #[.int .i64 K, .int .i64 (z : Int), .int .i64 Q, .string T] 82)) := hG.alloc _ _
              have ca := cell_new4 wr (.int .i64 K) (.int .i64 (z : Int)) (.int .i64 Q) (.string T) 82
              have cp := PV.out _ ((Grew.refl wr).alloc (#[.int .i64 K, .int .i64 (z : Int), .int .i64 Q, .string T]) 82)
              generalize wr.alloc (.cells #[.int .i64 K, .int .i64 (z : Int), .int .i64 Q, .string T] 82) = W at *
              generalize wr.heap.size = q at *
              obtain ⟨d0, d1, d2, d3⟩ := ca
              clear e0 e1 e2 e3 hG
              go_quiet (first
                | (go_at_call 64; exact Calls.quiet_of_same (hK.out _))
                | fail)
              go_upto_region 10 with (fail)
              have hX : Grew w (W.drewN nq) := hW.drewN _
              have dd : C4 (W.drewN nq) q K (z : Int) Q T := ⟨d0, d1, d2, d3⟩
              clear d0 d1 d2 d3 hW cp
              generalize W.drewN nq = X at *
              have qSli : Hid (∀ w', Grew X w' → (w'.cell? ⟨q, 0, none⟩ = some (.int .i64 K) ∧ w'.cell? ⟨q, 1, none⟩ = some (.int .i64 (z : Int)))) := fun w' g => ⟨g.cell dd.1, g.cell dd.2.1⟩
              refine kept_region X (by kernel_rfl) (by kernel_rfl) ?_
              refine kept_want ?vli0 (by rfl) ?yli0 ?rli0
              case yli0 => (intro w' hG; obtain ⟨q0, q1⟩ := qSli.out w' hG; clear hG; obtain ⟨z1, z2, z3⟩ := Z1.out; go_simp; try (with_reducible rfl))
              simp only [Act.put, List.setIfInBounds_toArray, List.set_cons_zero, List.set_cons_succ]
              refine kept_want ?vli1 (by rfl) ?yli1 ?rli1
              case yli1 => (intro w' hG; obtain ⟨q0, q1⟩ := qSli.out w' hG; clear hG; obtain ⟨z1, z2, z3⟩ := Z1.out; go_simp; try (with_reducible rfl))
              simp only [Act.put, List.setIfInBounds_toArray, List.set_cons_zero, List.set_cons_succ]
              refine kept_want ?vli2 (by rfl) ?yli2 ?rli2
              case yli2 => (intro w' hG; obtain ⟨q0, q1⟩ := qSli.out w' hG; clear hG; obtain ⟨z1, z2, z3⟩ := Z1.out; go_simp; try (with_reducible rfl))
              simp only [Act.put, List.setIfInBounds_toArray, List.set_cons_zero, List.set_cons_succ]
              refine kept_want ?vli3 (by rfl) ?yli3 ?rli3
              case yli3 => (intro w' hG; go_simp; refine (h4.out _).mono ?_; rintro e w'' ⟨rfl, U⟩; refine ⟨?_, hG.trans U⟩; with_reducible rfl)
              simp only [Act.put, List.setIfInBounds_toArray, List.set_cons_zero, List.set_cons_succ]
              refine kept_want ?vli4 (by rfl) ?yli4 ?rli4
              case yli4 => (intro w' hG; obtain ⟨q0, q1⟩ := qSli.out w' hG; clear hG; obtain ⟨z1, z2, z3⟩ := Z1.out; go_simp; try (with_reducible rfl))
              simp only [Act.put, List.setIfInBounds_toArray, List.set_cons_zero, List.set_cons_succ]
              refine kept_want ?vli5 (by rfl) ?yli5 ?rli5
              case yli5 => (intro w' hG; obtain ⟨q0, q1⟩ := qSli.out w' hG; clear hG; obtain ⟨z1, z2, z3⟩ := Z1.out; go_simp; try (with_reducible rfl))
              simp only [Act.put, List.setIfInBounds_toArray, List.set_cons_zero, List.set_cons_succ]
              refine kept_want ?vli6 (by rfl) ?yli6 ?rli6
              case yli6 => (intro w' hG; obtain ⟨q0, q1⟩ := qSli.out w' hG; clear hG; obtain ⟨z1, z2, z3⟩ := Z1.out; go_simp; try (with_reducible rfl))
              simp only [Act.put, List.setIfInBounds_toArray, List.set_cons_zero, List.set_cons_succ]
              refine kept_want ?vli7 (by rfl) ?yli7 ?rli7
              case yli7 => (intro w' hG; go_simp; refine (h2.out _).mono ?_; rintro e w'' ⟨rfl, U⟩; refine ⟨?_, hG.trans U⟩; with_reducible rfl)
              simp only [Act.put, List.setIfInBounds_toArray, List.set_cons_zero, List.set_cons_succ]
              refine kept_want ?vli8 (by rfl) ?yli8 ?rli8
              case yli8 => (intro w' hG; obtain ⟨q0, q1⟩ := qSli.out w' hG; clear hG; obtain ⟨z1, z2, z3⟩ := Z1.out; go_simp; try (with_reducible rfl))
              simp only [Act.put, List.setIfInBounds_toArray, List.set_cons_zero, List.set_cons_succ]
              refine kept_want ?vli9 (by rfl) ?yli9 ?rli9
              case yli9 => (intro w' hG; obtain ⟨q0, q1⟩ := qSli.out w' hG; clear hG; obtain ⟨z1, z2, z3⟩ := Z1.out; go_simp; try (with_reducible rfl))
              simp only [Act.put, List.setIfInBounds_toArray, List.set_cons_zero, List.set_cons_succ]
              refine kept_nil ?_
              intro V hV
              clear qSli
              have dv := dd.grew hV
              obtain ⟨d0, d1, d2, d3⟩ := dv
              have hY := hX.trans hV
              clear dd hX hV
              go_wp2_with (first | (go_at_call 65; go_fit (hP.out _); rintro e w1 ⟨rfl, rfl⟩) | fail)
              go_ret2
              exact ⟨HF.out, hY⟩
          · have hz2i : ¬ (z : Int) ≤ 24 := by omega
            cases hpb : pageB Q with
            | false =>
              rw [hpb] at hP
              have HF : Hid _ := hNone.out (0) hlt (by rw [ceOk_zero, hx, good_pageB hz2i hpb])
              clear hb
              go_upto_region 8 with (fail)
              have hW : Grew w (wr.alloc (.cells #[.int .i64 K, .int .i64 (z : Int), .int .i64 Q, .string T] 82)) := hG.alloc _ _
              have ca := cell_new4 wr (.int .i64 K) (.int .i64 (z : Int)) (.int .i64 Q) (.string T) 82
              have cp := PV.out _ ((Grew.refl wr).alloc (#[.int .i64 K, .int .i64 (z : Int), .int .i64 Q, .string T]) 82)
              generalize wr.alloc (.cells #[.int .i64 K, .int .i64 (z : Int), .int .i64 Q, .string T] 82) = W at *
              generalize wr.heap.size = q at *
              obtain ⟨d0, d1, d2, d3⟩ := ca
              clear e0 e1 e2 e3 hG
              go_quiet (first
                | (go_at_call 64; exact Calls.quiet_of_same (hK.out _))
                | fail)
              go_upto_region 10 with (fail)
              have hX : Grew w (W.drewN nq) := hW.drewN _
              have dd : C4 (W.drewN nq) q K (z : Int) Q T := ⟨d0, d1, d2, d3⟩
              clear d0 d1 d2 d3 hW cp
              generalize W.drewN nq = X at *
              have qSlj : Hid (∀ w', Grew X w' → (w'.cell? ⟨q, 0, none⟩ = some (.int .i64 K) ∧ w'.cell? ⟨q, 1, none⟩ = some (.int .i64 (z : Int)))) := fun w' g => ⟨g.cell dd.1, g.cell dd.2.1⟩
              refine kept_region X (by kernel_rfl) (by kernel_rfl) ?_
              refine kept_want ?vlj0 (by rfl) ?ylj0 ?rlj0
              case ylj0 => (intro w' hG; obtain ⟨q0, q1⟩ := qSlj.out w' hG; clear hG; obtain ⟨z1, z2, z3⟩ := Z1.out; go_simp; try (with_reducible rfl))
              simp only [Act.put, List.setIfInBounds_toArray, List.set_cons_zero, List.set_cons_succ]
              refine kept_want ?vlj1 (by rfl) ?ylj1 ?rlj1
              case ylj1 => (intro w' hG; obtain ⟨q0, q1⟩ := qSlj.out w' hG; clear hG; obtain ⟨z1, z2, z3⟩ := Z1.out; go_simp; try (with_reducible rfl))
              simp only [Act.put, List.setIfInBounds_toArray, List.set_cons_zero, List.set_cons_succ]
              refine kept_want ?vlj2 (by rfl) ?ylj2 ?rlj2
              case ylj2 => (intro w' hG; obtain ⟨q0, q1⟩ := qSlj.out w' hG; clear hG; obtain ⟨z1, z2, z3⟩ := Z1.out; go_simp; try (with_reducible rfl))
              simp only [Act.put, List.setIfInBounds_toArray, List.set_cons_zero, List.set_cons_succ]
              refine kept_want ?vlj3 (by rfl) ?ylj3 ?rlj3
              case ylj3 => (intro w' hG; go_simp; refine (h4.out _).mono ?_; rintro e w'' ⟨rfl, U⟩; refine ⟨?_, hG.trans U⟩; with_reducible rfl)
              simp only [Act.put, List.setIfInBounds_toArray, List.set_cons_zero, List.set_cons_succ]
              refine kept_want ?vlj4 (by rfl) ?ylj4 ?rlj4
              case ylj4 => (intro w' hG; obtain ⟨q0, q1⟩ := qSlj.out w' hG; clear hG; obtain ⟨z1, z2, z3⟩ := Z1.out; go_simp; try (with_reducible rfl))
              simp only [Act.put, List.setIfInBounds_toArray, List.set_cons_zero, List.set_cons_succ]
              refine kept_want ?vlj5 (by rfl) ?ylj5 ?rlj5
              case ylj5 => (intro w' hG; obtain ⟨q0, q1⟩ := qSlj.out w' hG; clear hG; obtain ⟨z1, z2, z3⟩ := Z1.out; go_simp; try (with_reducible rfl))
              simp only [Act.put, List.setIfInBounds_toArray, List.set_cons_zero, List.set_cons_succ]
              refine kept_want ?vlj6 (by rfl) ?ylj6 ?rlj6
              case ylj6 => (intro w' hG; obtain ⟨q0, q1⟩ := qSlj.out w' hG; clear hG; obtain ⟨z1, z2, z3⟩ := Z1.out; go_simp; try (with_reducible rfl))
              simp only [Act.put, List.setIfInBounds_toArray, List.set_cons_zero, List.set_cons_succ]
              refine kept_want ?vlj7 (by rfl) ?ylj7 ?rlj7
              case ylj7 => (intro w' hG; go_simp; refine (h2.out _).mono ?_; rintro e w'' ⟨rfl, U⟩; refine ⟨?_, hG.trans U⟩; with_reducible rfl)
              simp only [Act.put, List.setIfInBounds_toArray, List.set_cons_zero, List.set_cons_succ]
              refine kept_want ?vlj8 (by rfl) ?ylj8 ?rlj8
              case ylj8 => (intro w' hG; obtain ⟨q0, q1⟩ := qSlj.out w' hG; clear hG; obtain ⟨z1, z2, z3⟩ := Z1.out; go_simp; try (with_reducible rfl))
              simp only [Act.put, List.setIfInBounds_toArray, List.set_cons_zero, List.set_cons_succ]
              refine kept_want ?vlj9 (by rfl) ?ylj9 ?rlj9
              case ylj9 => (intro w' hG; obtain ⟨q0, q1⟩ := qSlj.out w' hG; clear hG; obtain ⟨z1, z2, z3⟩ := Z1.out; go_simp; try (with_reducible rfl))
              simp only [Act.put, List.setIfInBounds_toArray, List.set_cons_zero, List.set_cons_succ]
              refine kept_nil ?_
              intro V hV
              clear qSlj
              have dv := dd.grew hV
              obtain ⟨d0, d1, d2, d3⟩ := dv
              have hY := hX.trans hV
              clear dd hX hV
              go_wp2_with (first | (go_at_call 65; go_fit (hP.out _); rintro e w1 ⟨rfl, rfl⟩) | fail)
              go_ret2
              exact ⟨HF.out, hY⟩
            | true =>
              rw [hpb] at hP
              have hp1 := (pageB_iff Q).1 hpb
              by_cases hT : T = ByteArray.empty
              · subst hT
                have hp2 : Hid (∀ W, Calls Tryz.prog 63 #[.int .i64 Q, .int .i64 2] W fun e w' => e = .returned (.string (txt (digs Q.toNat 2))) ∧ Grew W w') := fun W => by
                  have := refbig_any Q.toNat 2 (by omega) (by omega) W
                  rw [show ((Q.toNat : Nat) : Int) = Q by omega] at this
                  exact this
                have hup : Hid (txt (leafH C (0)) ++ txt (digs K.toNat 4) ++ txt (digs z 2) ++ txt (digs Q.toNat 2) = txt (leafH C (0 + 1))) := by
                  show _ = _
                  rw [leafH_up C (0) (by rw [hNN.out]; exact hlt), hx, txt_append, txt_append, txt_append]
                  simp [ceB, hz2i]
                have hcur : Hid (∀ j, j < 0 + 1 → ceOk C j = true) := fun j hj => by
                  obtain rfl : j = 0 := by omega
                  rw [ceOk_zero, hx]
                  exact good_out hkb hz2i (Int.not_lt.1 hz9) hpb rfl
                have y9 : (txt (digs Q.toNat 2)).size = 2 := by rw [txt_size, digs_len]
                have Z2 : Hid (¬ 9223372036854775807 < (txt (leafH C (0))).size + 4 + 2 + 2) := (by omega : ¬ 9223372036854775807 < (txt (leafH C (0))).size + 4 + 2 + 2)
                clear hb hp1
                go_upto_region 8 with (fail)
                have hW : Grew w (wr.alloc (.cells #[.int .i64 K, .int .i64 (z : Int), .int .i64 Q, .string ByteArray.empty] 82)) := hG.alloc _ _
                have ca := cell_new4 wr (.int .i64 K) (.int .i64 (z : Int)) (.int .i64 Q) (.string ByteArray.empty) 82
                have cp := PV.out _ ((Grew.refl wr).alloc (#[.int .i64 K, .int .i64 (z : Int), .int .i64 Q, .string ByteArray.empty]) 82)
                generalize wr.alloc (.cells #[.int .i64 K, .int .i64 (z : Int), .int .i64 Q, .string ByteArray.empty] 82) = W at *
                generalize wr.heap.size = q at *
                obtain ⟨d0, d1, d2, d3⟩ := ca
                clear e0 e1 e2 e3 hG
                go_quiet (first
                  | (go_at_call 64; exact Calls.quiet_of_same (hK.out _))
                  | fail)
                go_upto_region 10 with (fail)
                have hX : Grew w (W.drewN nq) := hW.drewN _
                have dd : C4 (W.drewN nq) q K (z : Int) Q ByteArray.empty := ⟨d0, d1, d2, d3⟩
                clear d0 d1 d2 d3 hW cp
                generalize W.drewN nq = X at *
                have qSlk : Hid (∀ w', Grew X w' → (w'.cell? ⟨q, 0, none⟩ = some (.int .i64 K) ∧ w'.cell? ⟨q, 1, none⟩ = some (.int .i64 (z : Int)))) := fun w' g => ⟨g.cell dd.1, g.cell dd.2.1⟩
                refine kept_region X (by kernel_rfl) (by kernel_rfl) ?_
                refine kept_want ?vlk0 (by rfl) ?ylk0 ?rlk0
                case ylk0 => (intro w' hG; obtain ⟨q0, q1⟩ := qSlk.out w' hG; clear hG; obtain ⟨z1, z2, z3⟩ := Z1.out; go_simp; try (with_reducible rfl))
                simp only [Act.put, List.setIfInBounds_toArray, List.set_cons_zero, List.set_cons_succ]
                refine kept_want ?vlk1 (by rfl) ?ylk1 ?rlk1
                case ylk1 => (intro w' hG; obtain ⟨q0, q1⟩ := qSlk.out w' hG; clear hG; obtain ⟨z1, z2, z3⟩ := Z1.out; go_simp; try (with_reducible rfl))
                simp only [Act.put, List.setIfInBounds_toArray, List.set_cons_zero, List.set_cons_succ]
                refine kept_want ?vlk2 (by rfl) ?ylk2 ?rlk2
                case ylk2 => (intro w' hG; obtain ⟨q0, q1⟩ := qSlk.out w' hG; clear hG; obtain ⟨z1, z2, z3⟩ := Z1.out; go_simp; try (with_reducible rfl))
                simp only [Act.put, List.setIfInBounds_toArray, List.set_cons_zero, List.set_cons_succ]
                refine kept_want ?vlk3 (by rfl) ?ylk3 ?rlk3
                case ylk3 => (intro w' hG; go_simp; refine (h4.out _).mono ?_; rintro e w'' ⟨rfl, U⟩; refine ⟨?_, hG.trans U⟩; with_reducible rfl)
                simp only [Act.put, List.setIfInBounds_toArray, List.set_cons_zero, List.set_cons_succ]
                refine kept_want ?vlk4 (by rfl) ?ylk4 ?rlk4
                case ylk4 => (intro w' hG; obtain ⟨q0, q1⟩ := qSlk.out w' hG; clear hG; obtain ⟨z1, z2, z3⟩ := Z1.out; go_simp; try (with_reducible rfl))
                simp only [Act.put, List.setIfInBounds_toArray, List.set_cons_zero, List.set_cons_succ]
                refine kept_want ?vlk5 (by rfl) ?ylk5 ?rlk5
                case ylk5 => (intro w' hG; obtain ⟨q0, q1⟩ := qSlk.out w' hG; clear hG; obtain ⟨z1, z2, z3⟩ := Z1.out; go_simp; try (with_reducible rfl))
                simp only [Act.put, List.setIfInBounds_toArray, List.set_cons_zero, List.set_cons_succ]
                refine kept_want ?vlk6 (by rfl) ?ylk6 ?rlk6
                case ylk6 => (intro w' hG; obtain ⟨q0, q1⟩ := qSlk.out w' hG; clear hG; obtain ⟨z1, z2, z3⟩ := Z1.out; go_simp; try (with_reducible rfl))
                simp only [Act.put, List.setIfInBounds_toArray, List.set_cons_zero, List.set_cons_succ]
                refine kept_want ?vlk7 (by rfl) ?ylk7 ?rlk7
                case ylk7 => (intro w' hG; go_simp; refine (h2.out _).mono ?_; rintro e w'' ⟨rfl, U⟩; refine ⟨?_, hG.trans U⟩; with_reducible rfl)
                simp only [Act.put, List.setIfInBounds_toArray, List.set_cons_zero, List.set_cons_succ]
                refine kept_want ?vlk8 (by rfl) ?ylk8 ?rlk8
                case ylk8 => (intro w' hG; obtain ⟨q0, q1⟩ := qSlk.out w' hG; clear hG; obtain ⟨z1, z2, z3⟩ := Z1.out; go_simp; try (with_reducible rfl))
                simp only [Act.put, List.setIfInBounds_toArray, List.set_cons_zero, List.set_cons_succ]
                refine kept_want ?vlk9 (by rfl) ?ylk9 ?rlk9
                case ylk9 => (intro w' hG; obtain ⟨q0, q1⟩ := qSlk.out w' hG; clear hG; obtain ⟨z1, z2, z3⟩ := Z1.out; go_simp; try (with_reducible rfl))
                simp only [Act.put, List.setIfInBounds_toArray, List.set_cons_zero, List.set_cons_succ]
                refine kept_nil ?_
                intro V hV
                clear qSlk
                have dv := dd.grew hV
                obtain ⟨d0, d1, d2, d3⟩ := dv
                have hY := hX.trans hV
                clear dd hX hV
                have z4 := Z2.out
                go_wp2_with (first | (go_at_call 65; go_fit (hP.out _); rintro e w1 ⟨rfl, rfl⟩) | (go_at_call 63; go_fit (hp2.out _); rintro e w1 ⟨rfl, G9⟩) | fail)
                refine ⟨⟨0 + 1, hlt, by simp, congrArg Value.string hup.out, hcur.out, hY.trans G9⟩, ?_⟩
                first | exact meas_up hlt | exact zmeas0 hlt | exact zmeas1 hlt
              · have hne := not_empty hT
                have HF : Hid _ := hNone.out (0) hlt (by rw [ceOk_zero, hx, good_bytes hz2i hT])
                clear hb
                go_upto_region 8 with (fail)
                have hW : Grew w (wr.alloc (.cells #[.int .i64 K, .int .i64 (z : Int), .int .i64 Q, .string T] 82)) := hG.alloc _ _
                have ca := cell_new4 wr (.int .i64 K) (.int .i64 (z : Int)) (.int .i64 Q) (.string T) 82
                have cp := PV.out _ ((Grew.refl wr).alloc (#[.int .i64 K, .int .i64 (z : Int), .int .i64 Q, .string T]) 82)
                generalize wr.alloc (.cells #[.int .i64 K, .int .i64 (z : Int), .int .i64 Q, .string T] 82) = W at *
                generalize wr.heap.size = q at *
                obtain ⟨d0, d1, d2, d3⟩ := ca
                clear e0 e1 e2 e3 hG
                go_quiet (first
                  | (go_at_call 64; exact Calls.quiet_of_same (hK.out _))
                  | fail)
                go_upto_region 10 with (fail)
                have hX : Grew w (W.drewN nq) := hW.drewN _
                have dd : C4 (W.drewN nq) q K (z : Int) Q T := ⟨d0, d1, d2, d3⟩
                clear d0 d1 d2 d3 hW cp
                generalize W.drewN nq = X at *
                have qSll : Hid (∀ w', Grew X w' → (w'.cell? ⟨q, 0, none⟩ = some (.int .i64 K) ∧ w'.cell? ⟨q, 1, none⟩ = some (.int .i64 (z : Int)))) := fun w' g => ⟨g.cell dd.1, g.cell dd.2.1⟩
                refine kept_region X (by kernel_rfl) (by kernel_rfl) ?_
                refine kept_want ?vll0 (by rfl) ?yll0 ?rll0
                case yll0 => (intro w' hG; obtain ⟨q0, q1⟩ := qSll.out w' hG; clear hG; obtain ⟨z1, z2, z3⟩ := Z1.out; go_simp; try (with_reducible rfl))
                simp only [Act.put, List.setIfInBounds_toArray, List.set_cons_zero, List.set_cons_succ]
                refine kept_want ?vll1 (by rfl) ?yll1 ?rll1
                case yll1 => (intro w' hG; obtain ⟨q0, q1⟩ := qSll.out w' hG; clear hG; obtain ⟨z1, z2, z3⟩ := Z1.out; go_simp; try (with_reducible rfl))
                simp only [Act.put, List.setIfInBounds_toArray, List.set_cons_zero, List.set_cons_succ]
                refine kept_want ?vll2 (by rfl) ?yll2 ?rll2
                case yll2 => (intro w' hG; obtain ⟨q0, q1⟩ := qSll.out w' hG; clear hG; obtain ⟨z1, z2, z3⟩ := Z1.out; go_simp; try (with_reducible rfl))
                simp only [Act.put, List.setIfInBounds_toArray, List.set_cons_zero, List.set_cons_succ]
                refine kept_want ?vll3 (by rfl) ?yll3 ?rll3
                case yll3 => (intro w' hG; go_simp; refine (h4.out _).mono ?_; rintro e w'' ⟨rfl, U⟩; refine ⟨?_, hG.trans U⟩; with_reducible rfl)
                simp only [Act.put, List.setIfInBounds_toArray, List.set_cons_zero, List.set_cons_succ]
                refine kept_want ?vll4 (by rfl) ?yll4 ?rll4
                case yll4 => (intro w' hG; obtain ⟨q0, q1⟩ := qSll.out w' hG; clear hG; obtain ⟨z1, z2, z3⟩ := Z1.out; go_simp; try (with_reducible rfl))
                simp only [Act.put, List.setIfInBounds_toArray, List.set_cons_zero, List.set_cons_succ]
                refine kept_want ?vll5 (by rfl) ?yll5 ?rll5
                case yll5 => (intro w' hG; obtain ⟨q0, q1⟩ := qSll.out w' hG; clear hG; obtain ⟨z1, z2, z3⟩ := Z1.out; go_simp; try (with_reducible rfl))
                simp only [Act.put, List.setIfInBounds_toArray, List.set_cons_zero, List.set_cons_succ]
                refine kept_want ?vll6 (by rfl) ?yll6 ?rll6
                case yll6 => (intro w' hG; obtain ⟨q0, q1⟩ := qSll.out w' hG; clear hG; obtain ⟨z1, z2, z3⟩ := Z1.out; go_simp; try (with_reducible rfl))
                simp only [Act.put, List.setIfInBounds_toArray, List.set_cons_zero, List.set_cons_succ]
                refine kept_want ?vll7 (by rfl) ?yll7 ?rll7
                case yll7 => (intro w' hG; go_simp; refine (h2.out _).mono ?_; rintro e w'' ⟨rfl, U⟩; refine ⟨?_, hG.trans U⟩; with_reducible rfl)
                simp only [Act.put, List.setIfInBounds_toArray, List.set_cons_zero, List.set_cons_succ]
                refine kept_want ?vll8 (by rfl) ?yll8 ?rll8
                case yll8 => (intro w' hG; obtain ⟨q0, q1⟩ := qSll.out w' hG; clear hG; obtain ⟨z1, z2, z3⟩ := Z1.out; go_simp; try (with_reducible rfl))
                simp only [Act.put, List.setIfInBounds_toArray, List.set_cons_zero, List.set_cons_succ]
                refine kept_want ?vll9 (by rfl) ?yll9 ?rll9
                case yll9 => (intro w' hG; obtain ⟨q0, q1⟩ := qSll.out w' hG; clear hG; obtain ⟨z1, z2, z3⟩ := Z1.out; go_simp; try (with_reducible rfl))
                simp only [Act.put, List.setIfInBounds_toArray, List.set_cons_zero, List.set_cons_succ]
                refine kept_nil ?_
                intro V hV
                clear qSll
                have dv := dd.grew hV
                obtain ⟨d0, d1, d2, d3⟩ := dv
                have hY := hX.trans hV
                clear dd hX hV
                go_wp2_with (first | (go_at_call 65; go_fit (hP.out _); rintro e w1 ⟨rfl, rfl⟩) | fail)
                go_ret2
                exact ⟨HF.out, hY⟩
      | succ p =>
        have hpv := hcs p (by rw [hNN.out]; omega)
        obtain ⟨M, hM0⟩ : ∃ M, (C.getD p noCe).key = M := ⟨_, rfl⟩
        have PV : Hid (∀ V, Grew wr V → V.cell? ⟨b, off + p * 4, none⟩ = some (.int .i64 M)) := fun V g => by
          have := ((hpv.grew hG).grew g).1
          rw [hM0] at this
          exact this
        have hp0 : (0 : Int) < (p : Int) + 1 := by omega
        have hpn : (p : Int) < n := by omega
        have hp00 : (0 : Int) ≤ p := by omega
        have hp01 : (0 : Int) ≤ (p : Int) + 1 := by omega
        clear hcs hpv
        cases hkb : keyB K with
        | false =>
          rw [hkb] at hK
          have HF : Hid _ := hNone.out (p + 1) hlt (by rw [ceOk_succ, hx, good_key hkb]; rfl)
          clear hb
          go_upto_region 8 with (fail)
          have hW : Grew w (wr.alloc (.cells #[.int .i64 K, .int .i64 Z, .int .i64 Q, .string T] 82)) := hG.alloc _ _
          have ca := cell_new4 wr (.int .i64 K) (.int .i64 Z) (.int .i64 Q) (.string T) 82
          have cp := PV.out _ ((Grew.refl wr).alloc (#[.int .i64 K, .int .i64 Z, .int .i64 Q, .string T]) 82)
          generalize wr.alloc (.cells #[.int .i64 K, .int .i64 Z, .int .i64 Q, .string T] 82) = W at *
          generalize wr.heap.size = q at *
          obtain ⟨d0, d1, d2, d3⟩ := ca
          clear e0 e1 e2 e3 hG
          go_quiet (first
            | (go_at_call 64; exact Calls.quiet_of_same (hK.out _))
            | fail)
          go_wp2_with (fail)
          go_ret2
          exact ⟨HF.out, hW.drewN _⟩
        | true =>
          rw [hkb] at hK
          have hk1 := (keyB_iff K).1 hkb
          by_cases hlt2 : M < K
          · have hle : ¬ K ≤ M := by omega
            by_cases hz0 : Z < 0
            · have HF : Hid _ := hNone.out (p + 1) hlt (by rw [ceOk_succ, hx, good_size (.inl hz0)]; rfl)
              clear hb
              go_upto_region 8 with (fail)
              have hW : Grew w (wr.alloc (.cells #[.int .i64 K, .int .i64 Z, .int .i64 Q, .string T] 82)) := hG.alloc _ _
              have ca := cell_new4 wr (.int .i64 K) (.int .i64 Z) (.int .i64 Q) (.string T) 82
              have cp := PV.out _ ((Grew.refl wr).alloc (#[.int .i64 K, .int .i64 Z, .int .i64 Q, .string T]) 82)
              generalize wr.alloc (.cells #[.int .i64 K, .int .i64 Z, .int .i64 Q, .string T] 82) = W at *
              generalize wr.heap.size = q at *
              obtain ⟨d0, d1, d2, d3⟩ := ca
              clear e0 e1 e2 e3 hG
              go_quiet (first
                | (go_at_call 64; exact Calls.quiet_of_same (hK.out _))
                | fail)
              go_wp2_with (fail)
              go_ret2
              exact ⟨HF.out, hW.drewN _⟩
            by_cases hz9 : 900 < Z
            · have HF : Hid _ := hNone.out (p + 1) hlt (by rw [ceOk_succ, hx, good_size (.inr hz9)]; rfl)
              clear hb
              go_upto_region 8 with (fail)
              have hW : Grew w (wr.alloc (.cells #[.int .i64 K, .int .i64 Z, .int .i64 Q, .string T] 82)) := hG.alloc _ _
              have ca := cell_new4 wr (.int .i64 K) (.int .i64 Z) (.int .i64 Q) (.string T) 82
              have cp := PV.out _ ((Grew.refl wr).alloc (#[.int .i64 K, .int .i64 Z, .int .i64 Q, .string T]) 82)
              generalize wr.alloc (.cells #[.int .i64 K, .int .i64 Z, .int .i64 Q, .string T] 82) = W at *
              generalize wr.heap.size = q at *
              obtain ⟨d0, d1, d2, d3⟩ := ca
              clear e0 e1 e2 e3 hG
              go_quiet (first
                | (go_at_call 64; exact Calls.quiet_of_same (hK.out _))
                | fail)
              go_wp2_with (fail)
              go_ret2
              exact ⟨HF.out, hW.drewN _⟩
            obtain ⟨z, rfl⟩ := Int.eq_ofNat_of_zero_le (a := Z) (by omega)
            have h4 : Hid (∀ W, Calls Tryz.prog 63 #[.int .i64 K, .int .i64 4] W fun e w' => e = .returned (.string (txt (digs K.toNat 4))) ∧ Grew W w') := fun W => by
              have := refbig_any K.toNat 4 (by omega) (by omega) W
              rw [show ((K.toNat : Nat) : Int) = K by omega] at this
              exact this
            have h2 : Hid (∀ W, Calls Tryz.prog 63 #[.int .i64 (z : Int), .int .i64 2] W fun e w' => e = .returned (.string (txt (digs z 2))) ∧ Grew W w') := fun W => refbig_any z 2 (by omega) (by omega) W
            clear y2
            have y2 : (txt (digs z 2)).size = 2 := by rw [txt_size, digs_len]
            by_cases hz2 : z ≤ 24
            · have hz2i : (z : Int) ≤ 24 := by omega
              by_cases hq : Q = 0
              · subst hq
                by_cases hT : T.size = z
                · have hTi : (T.size : Int) = z := by omega
                  have hup : Hid (txt (leafH C (p + 1)) ++ txt (digs K.toNat 4) ++ txt (digs z 2) ++ T = txt (leafH C (p + 1 + 1))) := by
                    have e : txt (leafH C (p + 1)) ++ txt (digs K.toNat 4) ++ txt (digs z 2) ++ txt T.data.toList = txt (leafH C (p + 1 + 1)) := by
                      rw [leafH_up C (p + 1) (by rw [hNN.out]; exact hlt), hx, txt_append, txt_append, txt_append]
                      simp [ceB, hz2i]
                    rw [txt_list] at e
                    exact e
                  have hcur : Hid (∀ j, j < p + 1 + 1 → ceOk C j = true) := fun j hj => by
                    by_cases e : j = p + 1
                    · subst e
                      rw [ceOk_succ, hx, hM0, good_in hkb (Int.natCast_nonneg z) hz2i rfl hTi]
                      simp [hlt2]
                    · exact hok j (by omega)
                  have Z2 : Hid (¬ 9223372036854775807 < (txt (leafH C (p + 1))).size + 4 + 2 + z) := (by omega : ¬ 9223372036854775807 < (txt (leafH C (p + 1))).size + 4 + 2 + z)
                  clear hb
                  go_upto_region 8 with (fail)
                  have hW : Grew w (wr.alloc (.cells #[.int .i64 K, .int .i64 (z : Int), .int .i64 0, .string T] 82)) := hG.alloc _ _
                  have ca := cell_new4 wr (.int .i64 K) (.int .i64 (z : Int)) (.int .i64 0) (.string T) 82
                  have cp := PV.out _ ((Grew.refl wr).alloc (#[.int .i64 K, .int .i64 (z : Int), .int .i64 0, .string T]) 82)
                  generalize wr.alloc (.cells #[.int .i64 K, .int .i64 (z : Int), .int .i64 0, .string T] 82) = W at *
                  generalize wr.heap.size = q at *
                  obtain ⟨d0, d1, d2, d3⟩ := ca
                  clear e0 e1 e2 e3 hG
                  go_quiet (first
                    | (go_at_call 64; exact Calls.quiet_of_same (hK.out _))
                    | fail)
                  go_upto_region 10 with (fail)
                  have hX : Grew w (W.drewN nq) := hW.drewN _
                  have dd : C4 (W.drewN nq) q K (z : Int) 0 T := ⟨d0, d1, d2, d3⟩
                  clear d0 d1 d2 d3 hW cp
                  generalize W.drewN nq = X at *
                  have qSla : Hid (∀ w', Grew X w' → (w'.cell? ⟨q, 0, none⟩ = some (.int .i64 K) ∧ w'.cell? ⟨q, 1, none⟩ = some (.int .i64 (z : Int)))) := fun w' g => ⟨g.cell dd.1, g.cell dd.2.1⟩
                  refine kept_region X (by kernel_rfl) (by kernel_rfl) ?_
                  refine kept_want ?vla0 (by rfl) ?yla0 ?rla0
                  case yla0 => (intro w' hG; obtain ⟨q0, q1⟩ := qSla.out w' hG; clear hG; obtain ⟨z1, z2, z3⟩ := Z1.out; go_simp; try (with_reducible rfl))
                  simp only [Act.put, List.setIfInBounds_toArray, List.set_cons_zero, List.set_cons_succ]
                  refine kept_want ?vla1 (by rfl) ?yla1 ?rla1
                  case yla1 => (intro w' hG; obtain ⟨q0, q1⟩ := qSla.out w' hG; clear hG; obtain ⟨z1, z2, z3⟩ := Z1.out; go_simp; try (with_reducible rfl))
                  simp only [Act.put, List.setIfInBounds_toArray, List.set_cons_zero, List.set_cons_succ]
                  refine kept_want ?vla2 (by rfl) ?yla2 ?rla2
                  case yla2 => (intro w' hG; obtain ⟨q0, q1⟩ := qSla.out w' hG; clear hG; obtain ⟨z1, z2, z3⟩ := Z1.out; go_simp; try (with_reducible rfl))
                  simp only [Act.put, List.setIfInBounds_toArray, List.set_cons_zero, List.set_cons_succ]
                  refine kept_want ?vla3 (by rfl) ?yla3 ?rla3
                  case yla3 => (intro w' hG; go_simp; refine (h4.out _).mono ?_; rintro e w'' ⟨rfl, U⟩; refine ⟨?_, hG.trans U⟩; with_reducible rfl)
                  simp only [Act.put, List.setIfInBounds_toArray, List.set_cons_zero, List.set_cons_succ]
                  refine kept_want ?vla4 (by rfl) ?yla4 ?rla4
                  case yla4 => (intro w' hG; obtain ⟨q0, q1⟩ := qSla.out w' hG; clear hG; obtain ⟨z1, z2, z3⟩ := Z1.out; go_simp; try (with_reducible rfl))
                  simp only [Act.put, List.setIfInBounds_toArray, List.set_cons_zero, List.set_cons_succ]
                  refine kept_want ?vla5 (by rfl) ?yla5 ?rla5
                  case yla5 => (intro w' hG; obtain ⟨q0, q1⟩ := qSla.out w' hG; clear hG; obtain ⟨z1, z2, z3⟩ := Z1.out; go_simp; try (with_reducible rfl))
                  simp only [Act.put, List.setIfInBounds_toArray, List.set_cons_zero, List.set_cons_succ]
                  refine kept_want ?vla6 (by rfl) ?yla6 ?rla6
                  case yla6 => (intro w' hG; obtain ⟨q0, q1⟩ := qSla.out w' hG; clear hG; obtain ⟨z1, z2, z3⟩ := Z1.out; go_simp; try (with_reducible rfl))
                  simp only [Act.put, List.setIfInBounds_toArray, List.set_cons_zero, List.set_cons_succ]
                  refine kept_want ?vla7 (by rfl) ?yla7 ?rla7
                  case yla7 => (intro w' hG; go_simp; refine (h2.out _).mono ?_; rintro e w'' ⟨rfl, U⟩; refine ⟨?_, hG.trans U⟩; with_reducible rfl)
                  simp only [Act.put, List.setIfInBounds_toArray, List.set_cons_zero, List.set_cons_succ]
                  refine kept_want ?vla8 (by rfl) ?yla8 ?rla8
                  case yla8 => (intro w' hG; obtain ⟨q0, q1⟩ := qSla.out w' hG; clear hG; obtain ⟨z1, z2, z3⟩ := Z1.out; go_simp; try (with_reducible rfl))
                  simp only [Act.put, List.setIfInBounds_toArray, List.set_cons_zero, List.set_cons_succ]
                  refine kept_want ?vla9 (by rfl) ?yla9 ?rla9
                  case yla9 => (intro w' hG; obtain ⟨q0, q1⟩ := qSla.out w' hG; clear hG; obtain ⟨z1, z2, z3⟩ := Z1.out; go_simp; try (with_reducible rfl))
                  simp only [Act.put, List.setIfInBounds_toArray, List.set_cons_zero, List.set_cons_succ]
                  refine kept_nil ?_
                  intro V hV
                  clear qSla
                  have dv := dd.grew hV
                  obtain ⟨d0, d1, d2, d3⟩ := dv
                  have hY := hX.trans hV
                  clear dd hX hV
                  have z4 := Z2.out
                  go_wp2_with (fail)
                  refine ⟨⟨p + 1 + 1, hlt, by simp, congrArg Value.string hup.out, hcur.out, hY⟩, ?_⟩
                  first | exact meas_up hlt | exact zmeas0 hlt | exact zmeas1 hlt
                · have hTi : ¬ (T.size : Int) = z := by omega
                  have HF : Hid _ := hNone.out (p + 1) hlt (by rw [ceOk_succ, hx, good_len hz2i hTi]; rfl)
                  clear hb
                  go_upto_region 8 with (fail)
                  have hW : Grew w (wr.alloc (.cells #[.int .i64 K, .int .i64 (z : Int), .int .i64 0, .string T] 82)) := hG.alloc _ _
                  have ca := cell_new4 wr (.int .i64 K) (.int .i64 (z : Int)) (.int .i64 0) (.string T) 82
                  have cp := PV.out _ ((Grew.refl wr).alloc (#[.int .i64 K, .int .i64 (z : Int), .int .i64 0, .string T]) 82)
                  generalize wr.alloc (.cells #[.int .i64 K, .int .i64 (z : Int), .int .i64 0, .string T] 82) = W at *
                  generalize wr.heap.size = q at *
                  obtain ⟨d0, d1, d2, d3⟩ := ca
                  clear e0 e1 e2 e3 hG
                  go_quiet (first
                    | (go_at_call 64; exact Calls.quiet_of_same (hK.out _))
                    | fail)
                  go_upto_region 10 with (fail)
                  have hX : Grew w (W.drewN nq) := hW.drewN _
                  have dd : C4 (W.drewN nq) q K (z : Int) 0 T := ⟨d0, d1, d2, d3⟩
                  clear d0 d1 d2 d3 hW cp
                  generalize W.drewN nq = X at *
                  have qSlb : Hid (∀ w', Grew X w' → (w'.cell? ⟨q, 0, none⟩ = some (.int .i64 K) ∧ w'.cell? ⟨q, 1, none⟩ = some (.int .i64 (z : Int)))) := fun w' g => ⟨g.cell dd.1, g.cell dd.2.1⟩
                  refine kept_region X (by kernel_rfl) (by kernel_rfl) ?_
                  refine kept_want ?vlb0 (by rfl) ?ylb0 ?rlb0
                  case ylb0 => (intro w' hG; obtain ⟨q0, q1⟩ := qSlb.out w' hG; clear hG; obtain ⟨z1, z2, z3⟩ := Z1.out; go_simp; try (with_reducible rfl))
                  simp only [Act.put, List.setIfInBounds_toArray, List.set_cons_zero, List.set_cons_succ]
                  refine kept_want ?vlb1 (by rfl) ?ylb1 ?rlb1
                  case ylb1 => (intro w' hG; obtain ⟨q0, q1⟩ := qSlb.out w' hG; clear hG; obtain ⟨z1, z2, z3⟩ := Z1.out; go_simp; try (with_reducible rfl))
                  simp only [Act.put, List.setIfInBounds_toArray, List.set_cons_zero, List.set_cons_succ]
                  refine kept_want ?vlb2 (by rfl) ?ylb2 ?rlb2
                  case ylb2 => (intro w' hG; obtain ⟨q0, q1⟩ := qSlb.out w' hG; clear hG; obtain ⟨z1, z2, z3⟩ := Z1.out; go_simp; try (with_reducible rfl))
                  simp only [Act.put, List.setIfInBounds_toArray, List.set_cons_zero, List.set_cons_succ]
                  refine kept_want ?vlb3 (by rfl) ?ylb3 ?rlb3
                  case ylb3 => (intro w' hG; go_simp; refine (h4.out _).mono ?_; rintro e w'' ⟨rfl, U⟩; refine ⟨?_, hG.trans U⟩; with_reducible rfl)
                  simp only [Act.put, List.setIfInBounds_toArray, List.set_cons_zero, List.set_cons_succ]
                  refine kept_want ?vlb4 (by rfl) ?ylb4 ?rlb4
                  case ylb4 => (intro w' hG; obtain ⟨q0, q1⟩ := qSlb.out w' hG; clear hG; obtain ⟨z1, z2, z3⟩ := Z1.out; go_simp; try (with_reducible rfl))
                  simp only [Act.put, List.setIfInBounds_toArray, List.set_cons_zero, List.set_cons_succ]
                  refine kept_want ?vlb5 (by rfl) ?ylb5 ?rlb5
                  case ylb5 => (intro w' hG; obtain ⟨q0, q1⟩ := qSlb.out w' hG; clear hG; obtain ⟨z1, z2, z3⟩ := Z1.out; go_simp; try (with_reducible rfl))
                  simp only [Act.put, List.setIfInBounds_toArray, List.set_cons_zero, List.set_cons_succ]
                  refine kept_want ?vlb6 (by rfl) ?ylb6 ?rlb6
                  case ylb6 => (intro w' hG; obtain ⟨q0, q1⟩ := qSlb.out w' hG; clear hG; obtain ⟨z1, z2, z3⟩ := Z1.out; go_simp; try (with_reducible rfl))
                  simp only [Act.put, List.setIfInBounds_toArray, List.set_cons_zero, List.set_cons_succ]
                  refine kept_want ?vlb7 (by rfl) ?ylb7 ?rlb7
                  case ylb7 => (intro w' hG; go_simp; refine (h2.out _).mono ?_; rintro e w'' ⟨rfl, U⟩; refine ⟨?_, hG.trans U⟩; with_reducible rfl)
                  simp only [Act.put, List.setIfInBounds_toArray, List.set_cons_zero, List.set_cons_succ]
                  refine kept_want ?vlb8 (by rfl) ?ylb8 ?rlb8
                  case ylb8 => (intro w' hG; obtain ⟨q0, q1⟩ := qSlb.out w' hG; clear hG; obtain ⟨z1, z2, z3⟩ := Z1.out; go_simp; try (with_reducible rfl))
                  simp only [Act.put, List.setIfInBounds_toArray, List.set_cons_zero, List.set_cons_succ]
                  refine kept_want ?vlb9 (by rfl) ?ylb9 ?rlb9
                  case ylb9 => (intro w' hG; obtain ⟨q0, q1⟩ := qSlb.out w' hG; clear hG; obtain ⟨z1, z2, z3⟩ := Z1.out; go_simp; try (with_reducible rfl))
                  simp only [Act.put, List.setIfInBounds_toArray, List.set_cons_zero, List.set_cons_succ]
                  refine kept_nil ?_
                  intro V hV
                  clear qSlb
                  have dv := dd.grew hV
                  obtain ⟨d0, d1, d2, d3⟩ := dv
                  have hY := hX.trans hV
                  clear dd hX hV
                  go_wp2_with (first | (go_at_call 65; go_fit (hP.out _); rintro e w1 ⟨rfl, rfl⟩) | fail)
                  go_ret2
                  exact ⟨HF.out, hY⟩
              · have HF : Hid _ := hNone.out (p + 1) hlt (by rw [ceOk_succ, hx, good_page hz2i hq]; rfl)
                clear hb
                go_upto_region 8 with (fail)
                have hW : Grew w (wr.alloc (.cells #[.int .i64 K, .int .i64 (z : Int), .int .i64 Q, .string T] 82)) := hG.alloc _ _
                have ca := cell_new4 wr (.int .i64 K) (.int .i64 (z : Int)) (.int .i64 Q) (.string T) 82
                have cp := PV.out _ ((Grew.refl wr).alloc (#[.int .i64 K, .int .i64 (z : Int), .int .i64 Q, .string T]) 82)
                generalize wr.alloc (.cells #[.int .i64 K, .int .i64 (z : Int), .int .i64 Q, .string T] 82) = W at *
                generalize wr.heap.size = q at *
                obtain ⟨d0, d1, d2, d3⟩ := ca
                clear e0 e1 e2 e3 hG
                go_quiet (first
                  | (go_at_call 64; exact Calls.quiet_of_same (hK.out _))
                  | fail)
                go_upto_region 10 with (fail)
                have hX : Grew w (W.drewN nq) := hW.drewN _
                have dd : C4 (W.drewN nq) q K (z : Int) Q T := ⟨d0, d1, d2, d3⟩
                clear d0 d1 d2 d3 hW cp
                generalize W.drewN nq = X at *
                have qSlc : Hid (∀ w', Grew X w' → (w'.cell? ⟨q, 0, none⟩ = some (.int .i64 K) ∧ w'.cell? ⟨q, 1, none⟩ = some (.int .i64 (z : Int)))) := fun w' g => ⟨g.cell dd.1, g.cell dd.2.1⟩
                refine kept_region X (by kernel_rfl) (by kernel_rfl) ?_
                refine kept_want ?vlc0 (by rfl) ?ylc0 ?rlc0
                case ylc0 => (intro w' hG; obtain ⟨q0, q1⟩ := qSlc.out w' hG; clear hG; obtain ⟨z1, z2, z3⟩ := Z1.out; go_simp; try (with_reducible rfl))
                simp only [Act.put, List.setIfInBounds_toArray, List.set_cons_zero, List.set_cons_succ]
                refine kept_want ?vlc1 (by rfl) ?ylc1 ?rlc1
                case ylc1 => (intro w' hG; obtain ⟨q0, q1⟩ := qSlc.out w' hG; clear hG; obtain ⟨z1, z2, z3⟩ := Z1.out; go_simp; try (with_reducible rfl))
                simp only [Act.put, List.setIfInBounds_toArray, List.set_cons_zero, List.set_cons_succ]
                refine kept_want ?vlc2 (by rfl) ?ylc2 ?rlc2
                case ylc2 => (intro w' hG; obtain ⟨q0, q1⟩ := qSlc.out w' hG; clear hG; obtain ⟨z1, z2, z3⟩ := Z1.out; go_simp; try (with_reducible rfl))
                simp only [Act.put, List.setIfInBounds_toArray, List.set_cons_zero, List.set_cons_succ]
                refine kept_want ?vlc3 (by rfl) ?ylc3 ?rlc3
                case ylc3 => (intro w' hG; go_simp; refine (h4.out _).mono ?_; rintro e w'' ⟨rfl, U⟩; refine ⟨?_, hG.trans U⟩; with_reducible rfl)
                simp only [Act.put, List.setIfInBounds_toArray, List.set_cons_zero, List.set_cons_succ]
                refine kept_want ?vlc4 (by rfl) ?ylc4 ?rlc4
                case ylc4 => (intro w' hG; obtain ⟨q0, q1⟩ := qSlc.out w' hG; clear hG; obtain ⟨z1, z2, z3⟩ := Z1.out; go_simp; try (with_reducible rfl))
                simp only [Act.put, List.setIfInBounds_toArray, List.set_cons_zero, List.set_cons_succ]
                refine kept_want ?vlc5 (by rfl) ?ylc5 ?rlc5
                case ylc5 => (intro w' hG; obtain ⟨q0, q1⟩ := qSlc.out w' hG; clear hG; obtain ⟨z1, z2, z3⟩ := Z1.out; go_simp; try (with_reducible rfl))
                simp only [Act.put, List.setIfInBounds_toArray, List.set_cons_zero, List.set_cons_succ]
                refine kept_want ?vlc6 (by rfl) ?ylc6 ?rlc6
                case ylc6 => (intro w' hG; obtain ⟨q0, q1⟩ := qSlc.out w' hG; clear hG; obtain ⟨z1, z2, z3⟩ := Z1.out; go_simp; try (with_reducible rfl))
                simp only [Act.put, List.setIfInBounds_toArray, List.set_cons_zero, List.set_cons_succ]
                refine kept_want ?vlc7 (by rfl) ?ylc7 ?rlc7
                case ylc7 => (intro w' hG; go_simp; refine (h2.out _).mono ?_; rintro e w'' ⟨rfl, U⟩; refine ⟨?_, hG.trans U⟩; with_reducible rfl)
                simp only [Act.put, List.setIfInBounds_toArray, List.set_cons_zero, List.set_cons_succ]
                refine kept_want ?vlc8 (by rfl) ?ylc8 ?rlc8
                case ylc8 => (intro w' hG; obtain ⟨q0, q1⟩ := qSlc.out w' hG; clear hG; obtain ⟨z1, z2, z3⟩ := Z1.out; go_simp; try (with_reducible rfl))
                simp only [Act.put, List.setIfInBounds_toArray, List.set_cons_zero, List.set_cons_succ]
                refine kept_want ?vlc9 (by rfl) ?ylc9 ?rlc9
                case ylc9 => (intro w' hG; obtain ⟨q0, q1⟩ := qSlc.out w' hG; clear hG; obtain ⟨z1, z2, z3⟩ := Z1.out; go_simp; try (with_reducible rfl))
                simp only [Act.put, List.setIfInBounds_toArray, List.set_cons_zero, List.set_cons_succ]
                refine kept_nil ?_
                intro V hV
                clear qSlc
                have dv := dd.grew hV
                obtain ⟨d0, d1, d2, d3⟩ := dv
                have hY := hX.trans hV
                clear dd hX hV
                go_wp2_with (first | (go_at_call 65; go_fit (hP.out _); rintro e w1 ⟨rfl, rfl⟩) | fail)
                go_ret2
                exact ⟨HF.out, hY⟩
            · have hz2i : ¬ (z : Int) ≤ 24 := by omega
              cases hpb : pageB Q with
              | false =>
                rw [hpb] at hP
                have HF : Hid _ := hNone.out (p + 1) hlt (by rw [ceOk_succ, hx, good_pageB hz2i hpb]; rfl)
                clear hb
                go_upto_region 8 with (fail)
                have hW : Grew w (wr.alloc (.cells #[.int .i64 K, .int .i64 (z : Int), .int .i64 Q, .string T] 82)) := hG.alloc _ _
                have ca := cell_new4 wr (.int .i64 K) (.int .i64 (z : Int)) (.int .i64 Q) (.string T) 82
                have cp := PV.out _ ((Grew.refl wr).alloc (#[.int .i64 K, .int .i64 (z : Int), .int .i64 Q, .string T]) 82)
                generalize wr.alloc (.cells #[.int .i64 K, .int .i64 (z : Int), .int .i64 Q, .string T] 82) = W at *
                generalize wr.heap.size = q at *
                obtain ⟨d0, d1, d2, d3⟩ := ca
                clear e0 e1 e2 e3 hG
                go_quiet (first
                  | (go_at_call 64; exact Calls.quiet_of_same (hK.out _))
                  | fail)
                go_upto_region 10 with (fail)
                have hX : Grew w (W.drewN nq) := hW.drewN _
                have dd : C4 (W.drewN nq) q K (z : Int) Q T := ⟨d0, d1, d2, d3⟩
                clear d0 d1 d2 d3 hW cp
                generalize W.drewN nq = X at *
                have qSld : Hid (∀ w', Grew X w' → (w'.cell? ⟨q, 0, none⟩ = some (.int .i64 K) ∧ w'.cell? ⟨q, 1, none⟩ = some (.int .i64 (z : Int)))) := fun w' g => ⟨g.cell dd.1, g.cell dd.2.1⟩
                refine kept_region X (by kernel_rfl) (by kernel_rfl) ?_
                refine kept_want ?vld0 (by rfl) ?yld0 ?rld0
                case yld0 => (intro w' hG; obtain ⟨q0, q1⟩ := qSld.out w' hG; clear hG; obtain ⟨z1, z2, z3⟩ := Z1.out; go_simp; try (with_reducible rfl))
                simp only [Act.put, List.setIfInBounds_toArray, List.set_cons_zero, List.set_cons_succ]
                refine kept_want ?vld1 (by rfl) ?yld1 ?rld1
                case yld1 => (intro w' hG; obtain ⟨q0, q1⟩ := qSld.out w' hG; clear hG; obtain ⟨z1, z2, z3⟩ := Z1.out; go_simp; try (with_reducible rfl))
                simp only [Act.put, List.setIfInBounds_toArray, List.set_cons_zero, List.set_cons_succ]
                refine kept_want ?vld2 (by rfl) ?yld2 ?rld2
                case yld2 => (intro w' hG; obtain ⟨q0, q1⟩ := qSld.out w' hG; clear hG; obtain ⟨z1, z2, z3⟩ := Z1.out; go_simp; try (with_reducible rfl))
                simp only [Act.put, List.setIfInBounds_toArray, List.set_cons_zero, List.set_cons_succ]
                refine kept_want ?vld3 (by rfl) ?yld3 ?rld3
                case yld3 => (intro w' hG; go_simp; refine (h4.out _).mono ?_; rintro e w'' ⟨rfl, U⟩; refine ⟨?_, hG.trans U⟩; with_reducible rfl)
                simp only [Act.put, List.setIfInBounds_toArray, List.set_cons_zero, List.set_cons_succ]
                refine kept_want ?vld4 (by rfl) ?yld4 ?rld4
                case yld4 => (intro w' hG; obtain ⟨q0, q1⟩ := qSld.out w' hG; clear hG; obtain ⟨z1, z2, z3⟩ := Z1.out; go_simp; try (with_reducible rfl))
                simp only [Act.put, List.setIfInBounds_toArray, List.set_cons_zero, List.set_cons_succ]
                refine kept_want ?vld5 (by rfl) ?yld5 ?rld5
                case yld5 => (intro w' hG; obtain ⟨q0, q1⟩ := qSld.out w' hG; clear hG; obtain ⟨z1, z2, z3⟩ := Z1.out; go_simp; try (with_reducible rfl))
                simp only [Act.put, List.setIfInBounds_toArray, List.set_cons_zero, List.set_cons_succ]
                refine kept_want ?vld6 (by rfl) ?yld6 ?rld6
                case yld6 => (intro w' hG; obtain ⟨q0, q1⟩ := qSld.out w' hG; clear hG; obtain ⟨z1, z2, z3⟩ := Z1.out; go_simp; try (with_reducible rfl))
                simp only [Act.put, List.setIfInBounds_toArray, List.set_cons_zero, List.set_cons_succ]
                refine kept_want ?vld7 (by rfl) ?yld7 ?rld7
                case yld7 => (intro w' hG; go_simp; refine (h2.out _).mono ?_; rintro e w'' ⟨rfl, U⟩; refine ⟨?_, hG.trans U⟩; with_reducible rfl)
                simp only [Act.put, List.setIfInBounds_toArray, List.set_cons_zero, List.set_cons_succ]
                refine kept_want ?vld8 (by rfl) ?yld8 ?rld8
                case yld8 => (intro w' hG; obtain ⟨q0, q1⟩ := qSld.out w' hG; clear hG; obtain ⟨z1, z2, z3⟩ := Z1.out; go_simp; try (with_reducible rfl))
                simp only [Act.put, List.setIfInBounds_toArray, List.set_cons_zero, List.set_cons_succ]
                refine kept_want ?vld9 (by rfl) ?yld9 ?rld9
                case yld9 => (intro w' hG; obtain ⟨q0, q1⟩ := qSld.out w' hG; clear hG; obtain ⟨z1, z2, z3⟩ := Z1.out; go_simp; try (with_reducible rfl))
                simp only [Act.put, List.setIfInBounds_toArray, List.set_cons_zero, List.set_cons_succ]
                refine kept_nil ?_
                intro V hV
                clear qSld
                have dv := dd.grew hV
                obtain ⟨d0, d1, d2, d3⟩ := dv
                have hY := hX.trans hV
                clear dd hX hV
                go_wp2_with (first | (go_at_call 65; go_fit (hP.out _); rintro e w1 ⟨rfl, rfl⟩) | fail)
                go_ret2
                exact ⟨HF.out, hY⟩
              | true =>
                rw [hpb] at hP
                have hp1 := (pageB_iff Q).1 hpb
                by_cases hT : T = ByteArray.empty
                · subst hT
                  have hp2 : Hid (∀ W, Calls Tryz.prog 63 #[.int .i64 Q, .int .i64 2] W fun e w' => e = .returned (.string (txt (digs Q.toNat 2))) ∧ Grew W w') := fun W => by
                    have := refbig_any Q.toNat 2 (by omega) (by omega) W
                    rw [show ((Q.toNat : Nat) : Int) = Q by omega] at this
                    exact this
                  have hup : Hid (txt (leafH C (p + 1)) ++ txt (digs K.toNat 4) ++ txt (digs z 2) ++ txt (digs Q.toNat 2) = txt (leafH C (p + 1 + 1))) := by
                    show _ = _
                    rw [leafH_up C (p + 1) (by rw [hNN.out]; exact hlt), hx, txt_append, txt_append, txt_append]
                    simp [ceB, hz2i]
                  have hcur : Hid (∀ j, j < p + 1 + 1 → ceOk C j = true) := fun j hj => by
                    by_cases e : j = p + 1
                    · subst e
                      rw [ceOk_succ, hx, hM0, good_out hkb hz2i (Int.not_lt.1 hz9) hpb rfl]
                      simp [hlt2]
                    · exact hok j (by omega)
                  have y9 : (txt (digs Q.toNat 2)).size = 2 := by rw [txt_size, digs_len]
                  have Z2 : Hid (¬ 9223372036854775807 < (txt (leafH C (p + 1))).size + 4 + 2 + 2) := (by omega : ¬ 9223372036854775807 < (txt (leafH C (p + 1))).size + 4 + 2 + 2)
                  clear hb hp1
                  go_upto_region 8 with (fail)
                  have hW : Grew w (wr.alloc (.cells #[.int .i64 K, .int .i64 (z : Int), .int .i64 Q, .string ByteArray.empty] 82)) := hG.alloc _ _
                  have ca := cell_new4 wr (.int .i64 K) (.int .i64 (z : Int)) (.int .i64 Q) (.string ByteArray.empty) 82
                  have cp := PV.out _ ((Grew.refl wr).alloc (#[.int .i64 K, .int .i64 (z : Int), .int .i64 Q, .string ByteArray.empty]) 82)
                  generalize wr.alloc (.cells #[.int .i64 K, .int .i64 (z : Int), .int .i64 Q, .string ByteArray.empty] 82) = W at *
                  generalize wr.heap.size = q at *
                  obtain ⟨d0, d1, d2, d3⟩ := ca
                  clear e0 e1 e2 e3 hG
                  go_quiet (first
                    | (go_at_call 64; exact Calls.quiet_of_same (hK.out _))
                    | fail)
                  go_upto_region 10 with (fail)
                  have hX : Grew w (W.drewN nq) := hW.drewN _
                  have dd : C4 (W.drewN nq) q K (z : Int) Q ByteArray.empty := ⟨d0, d1, d2, d3⟩
                  clear d0 d1 d2 d3 hW cp
                  generalize W.drewN nq = X at *
                  have qSle : Hid (∀ w', Grew X w' → (w'.cell? ⟨q, 0, none⟩ = some (.int .i64 K) ∧ w'.cell? ⟨q, 1, none⟩ = some (.int .i64 (z : Int)))) := fun w' g => ⟨g.cell dd.1, g.cell dd.2.1⟩
                  refine kept_region X (by kernel_rfl) (by kernel_rfl) ?_
                  refine kept_want ?vle0 (by rfl) ?yle0 ?rle0
                  case yle0 => (intro w' hG; obtain ⟨q0, q1⟩ := qSle.out w' hG; clear hG; obtain ⟨z1, z2, z3⟩ := Z1.out; go_simp; try (with_reducible rfl))
                  simp only [Act.put, List.setIfInBounds_toArray, List.set_cons_zero, List.set_cons_succ]
                  refine kept_want ?vle1 (by rfl) ?yle1 ?rle1
                  case yle1 => (intro w' hG; obtain ⟨q0, q1⟩ := qSle.out w' hG; clear hG; obtain ⟨z1, z2, z3⟩ := Z1.out; go_simp; try (with_reducible rfl))
                  simp only [Act.put, List.setIfInBounds_toArray, List.set_cons_zero, List.set_cons_succ]
                  refine kept_want ?vle2 (by rfl) ?yle2 ?rle2
                  case yle2 => (intro w' hG; obtain ⟨q0, q1⟩ := qSle.out w' hG; clear hG; obtain ⟨z1, z2, z3⟩ := Z1.out; go_simp; try (with_reducible rfl))
                  simp only [Act.put, List.setIfInBounds_toArray, List.set_cons_zero, List.set_cons_succ]
                  refine kept_want ?vle3 (by rfl) ?yle3 ?rle3
                  case yle3 => (intro w' hG; go_simp; refine (h4.out _).mono ?_; rintro e w'' ⟨rfl, U⟩; refine ⟨?_, hG.trans U⟩; with_reducible rfl)
                  simp only [Act.put, List.setIfInBounds_toArray, List.set_cons_zero, List.set_cons_succ]
                  refine kept_want ?vle4 (by rfl) ?yle4 ?rle4
                  case yle4 => (intro w' hG; obtain ⟨q0, q1⟩ := qSle.out w' hG; clear hG; obtain ⟨z1, z2, z3⟩ := Z1.out; go_simp; try (with_reducible rfl))
                  simp only [Act.put, List.setIfInBounds_toArray, List.set_cons_zero, List.set_cons_succ]
                  refine kept_want ?vle5 (by rfl) ?yle5 ?rle5
                  case yle5 => (intro w' hG; obtain ⟨q0, q1⟩ := qSle.out w' hG; clear hG; obtain ⟨z1, z2, z3⟩ := Z1.out; go_simp; try (with_reducible rfl))
                  simp only [Act.put, List.setIfInBounds_toArray, List.set_cons_zero, List.set_cons_succ]
                  refine kept_want ?vle6 (by rfl) ?yle6 ?rle6
                  case yle6 => (intro w' hG; obtain ⟨q0, q1⟩ := qSle.out w' hG; clear hG; obtain ⟨z1, z2, z3⟩ := Z1.out; go_simp; try (with_reducible rfl))
                  simp only [Act.put, List.setIfInBounds_toArray, List.set_cons_zero, List.set_cons_succ]
                  refine kept_want ?vle7 (by rfl) ?yle7 ?rle7
                  case yle7 => (intro w' hG; go_simp; refine (h2.out _).mono ?_; rintro e w'' ⟨rfl, U⟩; refine ⟨?_, hG.trans U⟩; with_reducible rfl)
                  simp only [Act.put, List.setIfInBounds_toArray, List.set_cons_zero, List.set_cons_succ]
                  refine kept_want ?vle8 (by rfl) ?yle8 ?rle8
                  case yle8 => (intro w' hG; obtain ⟨q0, q1⟩ := qSle.out w' hG; clear hG; obtain ⟨z1, z2, z3⟩ := Z1.out; go_simp; try (with_reducible rfl))
                  simp only [Act.put, List.setIfInBounds_toArray, List.set_cons_zero, List.set_cons_succ]
                  refine kept_want ?vle9 (by rfl) ?yle9 ?rle9
                  case yle9 => (intro w' hG; obtain ⟨q0, q1⟩ := qSle.out w' hG; clear hG; obtain ⟨z1, z2, z3⟩ := Z1.out; go_simp; try (with_reducible rfl))
                  simp only [Act.put, List.setIfInBounds_toArray, List.set_cons_zero, List.set_cons_succ]
                  refine kept_nil ?_
                  intro V hV
                  clear qSle
                  have dv := dd.grew hV
                  obtain ⟨d0, d1, d2, d3⟩ := dv
                  have hY := hX.trans hV
                  clear dd hX hV
                  have z4 := Z2.out
                  go_wp2_with (first | (go_at_call 65; go_fit (hP.out _); rintro e w1 ⟨rfl, rfl⟩) | (go_at_call 63; go_fit (hp2.out _); rintro e w1 ⟨rfl, G9⟩) | fail)
                  refine ⟨⟨p + 1 + 1, hlt, by simp, congrArg Value.string hup.out, hcur.out, hY.trans G9⟩, ?_⟩
                  first | exact meas_up hlt | exact zmeas0 hlt | exact zmeas1 hlt
                · have hne := not_empty hT
                  have HF : Hid _ := hNone.out (p + 1) hlt (by rw [ceOk_succ, hx, good_bytes hz2i hT]; rfl)
                  clear hb
                  go_upto_region 8 with (fail)
                  have hW : Grew w (wr.alloc (.cells #[.int .i64 K, .int .i64 (z : Int), .int .i64 Q, .string T] 82)) := hG.alloc _ _
                  have ca := cell_new4 wr (.int .i64 K) (.int .i64 (z : Int)) (.int .i64 Q) (.string T) 82
                  have cp := PV.out _ ((Grew.refl wr).alloc (#[.int .i64 K, .int .i64 (z : Int), .int .i64 Q, .string T]) 82)
                  generalize wr.alloc (.cells #[.int .i64 K, .int .i64 (z : Int), .int .i64 Q, .string T] 82) = W at *
                  generalize wr.heap.size = q at *
                  obtain ⟨d0, d1, d2, d3⟩ := ca
                  clear e0 e1 e2 e3 hG
                  go_quiet (first
                    | (go_at_call 64; exact Calls.quiet_of_same (hK.out _))
                    | fail)
                  go_upto_region 10 with (fail)
                  have hX : Grew w (W.drewN nq) := hW.drewN _
                  have dd : C4 (W.drewN nq) q K (z : Int) Q T := ⟨d0, d1, d2, d3⟩
                  clear d0 d1 d2 d3 hW cp
                  generalize W.drewN nq = X at *
                  have qSlf : Hid (∀ w', Grew X w' → (w'.cell? ⟨q, 0, none⟩ = some (.int .i64 K) ∧ w'.cell? ⟨q, 1, none⟩ = some (.int .i64 (z : Int)))) := fun w' g => ⟨g.cell dd.1, g.cell dd.2.1⟩
                  refine kept_region X (by kernel_rfl) (by kernel_rfl) ?_
                  refine kept_want ?vlf0 (by rfl) ?ylf0 ?rlf0
                  case ylf0 => (intro w' hG; obtain ⟨q0, q1⟩ := qSlf.out w' hG; clear hG; obtain ⟨z1, z2, z3⟩ := Z1.out; go_simp; try (with_reducible rfl))
                  simp only [Act.put, List.setIfInBounds_toArray, List.set_cons_zero, List.set_cons_succ]
                  refine kept_want ?vlf1 (by rfl) ?ylf1 ?rlf1
                  case ylf1 => (intro w' hG; obtain ⟨q0, q1⟩ := qSlf.out w' hG; clear hG; obtain ⟨z1, z2, z3⟩ := Z1.out; go_simp; try (with_reducible rfl))
                  simp only [Act.put, List.setIfInBounds_toArray, List.set_cons_zero, List.set_cons_succ]
                  refine kept_want ?vlf2 (by rfl) ?ylf2 ?rlf2
                  case ylf2 => (intro w' hG; obtain ⟨q0, q1⟩ := qSlf.out w' hG; clear hG; obtain ⟨z1, z2, z3⟩ := Z1.out; go_simp; try (with_reducible rfl))
                  simp only [Act.put, List.setIfInBounds_toArray, List.set_cons_zero, List.set_cons_succ]
                  refine kept_want ?vlf3 (by rfl) ?ylf3 ?rlf3
                  case ylf3 => (intro w' hG; go_simp; refine (h4.out _).mono ?_; rintro e w'' ⟨rfl, U⟩; refine ⟨?_, hG.trans U⟩; with_reducible rfl)
                  simp only [Act.put, List.setIfInBounds_toArray, List.set_cons_zero, List.set_cons_succ]
                  refine kept_want ?vlf4 (by rfl) ?ylf4 ?rlf4
                  case ylf4 => (intro w' hG; obtain ⟨q0, q1⟩ := qSlf.out w' hG; clear hG; obtain ⟨z1, z2, z3⟩ := Z1.out; go_simp; try (with_reducible rfl))
                  simp only [Act.put, List.setIfInBounds_toArray, List.set_cons_zero, List.set_cons_succ]
                  refine kept_want ?vlf5 (by rfl) ?ylf5 ?rlf5
                  case ylf5 => (intro w' hG; obtain ⟨q0, q1⟩ := qSlf.out w' hG; clear hG; obtain ⟨z1, z2, z3⟩ := Z1.out; go_simp; try (with_reducible rfl))
                  simp only [Act.put, List.setIfInBounds_toArray, List.set_cons_zero, List.set_cons_succ]
                  refine kept_want ?vlf6 (by rfl) ?ylf6 ?rlf6
                  case ylf6 => (intro w' hG; obtain ⟨q0, q1⟩ := qSlf.out w' hG; clear hG; obtain ⟨z1, z2, z3⟩ := Z1.out; go_simp; try (with_reducible rfl))
                  simp only [Act.put, List.setIfInBounds_toArray, List.set_cons_zero, List.set_cons_succ]
                  refine kept_want ?vlf7 (by rfl) ?ylf7 ?rlf7
                  case ylf7 => (intro w' hG; go_simp; refine (h2.out _).mono ?_; rintro e w'' ⟨rfl, U⟩; refine ⟨?_, hG.trans U⟩; with_reducible rfl)
                  simp only [Act.put, List.setIfInBounds_toArray, List.set_cons_zero, List.set_cons_succ]
                  refine kept_want ?vlf8 (by rfl) ?ylf8 ?rlf8
                  case ylf8 => (intro w' hG; obtain ⟨q0, q1⟩ := qSlf.out w' hG; clear hG; obtain ⟨z1, z2, z3⟩ := Z1.out; go_simp; try (with_reducible rfl))
                  simp only [Act.put, List.setIfInBounds_toArray, List.set_cons_zero, List.set_cons_succ]
                  refine kept_want ?vlf9 (by rfl) ?ylf9 ?rlf9
                  case ylf9 => (intro w' hG; obtain ⟨q0, q1⟩ := qSlf.out w' hG; clear hG; obtain ⟨z1, z2, z3⟩ := Z1.out; go_simp; try (with_reducible rfl))
                  simp only [Act.put, List.setIfInBounds_toArray, List.set_cons_zero, List.set_cons_succ]
                  refine kept_nil ?_
                  intro V hV
                  clear qSlf
                  have dv := dd.grew hV
                  obtain ⟨d0, d1, d2, d3⟩ := dv
                  have hY := hX.trans hV
                  clear dd hX hV
                  go_wp2_with (first | (go_at_call 65; go_fit (hP.out _); rintro e w1 ⟨rfl, rfl⟩) | fail)
                  go_ret2
                  exact ⟨HF.out, hY⟩
          · have hle : K ≤ M := by omega
            have HF : Hid _ := hNone.out (p + 1) hlt (by rw [ceOk_succ, hx, hM0]; simp [hlt2])
            clear hb
            go_upto_region 8 with (fail)
            have hW : Grew w (wr.alloc (.cells #[.int .i64 K, .int .i64 Z, .int .i64 Q, .string T] 82)) := hG.alloc _ _
            have ca := cell_new4 wr (.int .i64 K) (.int .i64 Z) (.int .i64 Q) (.string T) 82
            have cp := PV.out _ ((Grew.refl wr).alloc (#[.int .i64 K, .int .i64 Z, .int .i64 Q, .string T]) 82)
            generalize wr.alloc (.cells #[.int .i64 K, .int .i64 Z, .int .i64 Q, .string T] 82) = W at *
            generalize wr.heap.size = q at *
            obtain ⟨d0, d1, d2, d3⟩ := ca
            clear e0 e1 e2 e3 hG
            go_quiet (first
              | (go_at_call 64; exact Calls.quiet_of_same (hK.out _))
              | fail)
            go_wp2_with (fail)
            go_ret2
            exact ⟨HF.out, hW.drewN _⟩
    · have hki : ¬ (k : Int) < n := by omega
      obtain rfl : k = n := by omega
      have hq := hAll.out hok
      have hv : leafV C = if leafOk C then txt (leafL C) else ByteArray.empty := rfl
      have hL : leafL C = padL (leafH C k) := by unfold leafL; rw [hNN.out]
      have hs : (txt (leafH C k)).size = (leafH C k).length := txt_size _
      by_cases h128 : (leafH C k).length ≤ 128
      · have hE : Hid (Ending.returned (.tuple #[.string (txt (padL (leafH C k))), .bool true]) = Ending.returned (.tuple #[.string (leafV C), .bool (leafOk C)])) := by
          show _ = _
          rw [hv, hq, decide_eq_true h128, hL]
          rfl
        have hf : Hid (∀ W, _) := fun W => reffill_any (leafH C k) h128 W
        have hsi : ¬ (128 : Int) < (txt (leafH C k)).size := by omega
        clear hs hL hv hq hok hAll hy
        go_wp2_with (first | (go_at_call 66; go_fit (hf.out _); rintro e w1 ⟨rfl, G⟩) | fail)
        go_ret2
        exact ⟨hE.out, hG.trans G⟩
      · have hE : Hid (Ending.returned (.tuple #[.string ByteArray.empty, .bool false]) = Ending.returned (.tuple #[.string (leafV C), .bool (leafOk C)])) := by
          show _ = _
          rw [hv, hq, decide_eq_false h128]
          rfl
        have hsi : (128 : Int) < (txt (leafH C k)).size := by omega
        clear hs hL hv hq hok hAll hy
        go_wp2_with (fail)
        go_ret2
        exact ⟨hE.out, hG⟩
end Go.Proofs.YtbkkhafckkndfaaGreat

namespace Go.Proofs.YtbkkhafckkndfaaGreat
open Go Go.RowKit

def celK (s : ByteArray) (i : Nat) : Int := numR (s.extract i (i + 4))
def celZ (s : ByteArray) (i : Nat) : Int := numR (s.extract (i + 4) (i + 6))
def celN (s : ByteArray) (i : Nat) : Nat := if celZ s i ≤ 24 then (celZ s i).toNat else 2
def celAt (s : ByteArray) (i : Nat) : Ce := if celZ s i ≤ 24 then ⟨celK s i, celZ s i, 0, s.extract (i + 6) (i + 6 + celN s i)⟩ else ⟨celK s i, celZ s i, numR (s.extract (i + 6) (i + 6 + celN s i)), ByteArray.empty⟩
/-- The first k cells of a page, and where the next one begins; none: they don't stand there. -/
def runC (s : ByteArray) : Nat → Option (List Ce × Nat)
  | 0 => some ([], 2)
  | k + 1 => match runC s k with
    | none => none
    | some (C, i) => if i + 6 ≤ 128 ∧ i + 6 + celN s i ≤ 128 then some (C ++ [celAt s i], i + 6 + celN s i) else none
def isLeaf (s : ByteArray) : Bool := decide (s.size = 128) && (s.data.toList.take 1 == [76]) && match runC s (cntS s) with
  | none => false
  | some (C, _) => leafOk C && decide (txt (leafL C) = s)
def cellsS (s : ByteArray) : List Ce := if isLeaf s then (match runC s (cntS s) with | none => [] | some (C, _) => C) else []
theorem celZ_le (s : ByteArray) (i : Nat) : 0 ≤ celZ s i ∧ celZ s i ≤ 65535 := by
  unfold celZ
  rw [numR_ext, show i + 6 - (i + 4) = 2 by omega]
  have h : valL ((s.data.toList.drop (i + 4)).take 2) < 65536 := by
    obtain ⟨l, hl⟩ : ∃ l, (s.data.toList.drop (i + 4)).take 2 = l := ⟨_, rfl⟩
    have hlen : l.length ≤ 2 := by rw [← hl, List.length_take]; omega
    rw [hl]
    have := valL_lt l.length l rfl
    have e : l.length = 0 ∨ l.length = 1 ∨ l.length = 2 := by omega
    rcases e with e | e | e <;> rw [e] at this <;> simp at this <;> omega
  rw [wrap_small (by omega)]
  omega
theorem cel_back {A R : List UInt8} {x : Ce} (h : ceGood x = true) : celK (txt (A ++ (ceB x ++ R))) A.length = x.key ∧ celZ (txt (A ++ (ceB x ++ R))) A.length = x.size ∧ celAt (txt (A ++ (ceB x ++ R))) A.length = x ∧ 6 + celN (txt (A ++ (ceB x ++ R))) A.length = (ceB x).length := by
  have h1 : keyB x.key = true := by
    cases e : keyB x.key with
    | true => rfl
    | false => rw [good_key e] at h; cases h
  have hk := (keyB_iff _).1 h1
  have hz : 0 ≤ x.size ∧ x.size ≤ 900 := by
    by_cases e : x.size < 0 ∨ 900 < x.size
    · rw [good_size e] at h; cases h
    · omega
  have d0 : (A ++ (ceB x ++ R)).drop A.length = ceB x ++ R := List.drop_left
  have d4 : (A ++ (ceB x ++ R)).drop (A.length + 4) = (ceB x ++ R).drop 4 := by rw [← List.drop_drop, d0]
  have d6 : (A ++ (ceB x ++ R)).drop (A.length + 6) = (ceB x ++ R).drop 6 := by rw [← List.drop_drop, d0]
  have c0 : ceB x ++ R = digs x.key.toNat 4 ++ (digs x.size.toNat 2 ++ ((if x.size ≤ 24 then x.bytes.data.toList else digs x.page.toNat 2) ++ R)) := by simp [ceB]
  have c4 : (ceB x ++ R).drop 4 = digs x.size.toNat 2 ++ ((if x.size ≤ 24 then x.bytes.data.toList else digs x.page.toNat 2) ++ R) := by
    rw [c0, List.drop_append_of_le_length (by rw [digs_len]; omega), List.drop_of_length_le (by rw [digs_len]; omega), List.nil_append]
  have c6 : (ceB x ++ R).drop 6 = (if x.size ≤ 24 then x.bytes.data.toList else digs x.page.toNat 2) ++ R := by
    rw [show (6 : Nat) = 4 + 2 from rfl, ← List.drop_drop, c4, List.drop_append_of_le_length (by rw [digs_len]; omega), List.drop_of_length_le (by rw [digs_len]; omega), List.nil_append]
  have eK : celK (txt (A ++ (ceB x ++ R))) A.length = x.key := by
    unfold celK
    rw [numR_ext, list_txt, d0, c0, Nat.add_sub_cancel_left, List.take_append_of_le_length (by rw [digs_len]; omega), List.take_of_length_le (by rw [digs_len]; omega), val_digs 4 _ (by omega), wrap_small (by omega)]
    omega
  have eZ : celZ (txt (A ++ (ceB x ++ R))) A.length = x.size := by
    unfold celZ
    rw [numR_ext, list_txt, d4, c4, show A.length + 6 - (A.length + 4) = 2 by omega, List.take_append_of_le_length (by rw [digs_len]; omega), List.take_of_length_le (by rw [digs_len]; omega), val_digs 2 _ (by omega), wrap_small (by omega)]
    omega
  refine ⟨eK, eZ, ?_, ?_⟩
  · unfold celAt
    unfold celN
    rw [eK, eZ]
    by_cases hs : x.size ≤ 24
    · have hp : x.page = 0 := by
        by_cases e : x.page = 0
        · exact e
        · rw [good_page hs e] at h; cases h
      have hl : (x.bytes.size : Int) = x.size := by
        by_cases e : (x.bytes.size : Int) = x.size
        · exact e
        · rw [good_len hs e] at h; cases h
      have hb : x.bytes.data.toList.length = x.bytes.size := Array.length_toList ..
      rw [if_pos hs, if_pos hs]
      have eb : (txt (A ++ (ceB x ++ R))).extract (A.length + 6) (A.length + 6 + x.size.toNat) = x.bytes := by
        rw [ext_list, list_txt, d6, c6, if_pos hs, Nat.add_sub_cancel_left, List.take_append_of_le_length (by omega), List.take_of_length_le (by omega), txt_list]
      rw [eb]
      obtain ⟨K, Z, Q, T⟩ := x
      dsimp only at hp ⊢
      rw [hp]
    · have hp : pageB x.page = true := by
        cases e : pageB x.page with
        | true => rfl
        | false => rw [good_pageB hs e] at h; cases h
      have hb : x.bytes = ByteArray.empty := by
        by_cases e : x.bytes = ByteArray.empty
        · exact e
        · rw [good_bytes hs e] at h; cases h
      have hp2 := (pageB_iff _).1 hp
      rw [if_neg hs, if_neg hs]
      have eb : numR ((txt (A ++ (ceB x ++ R))).extract (A.length + 6) (A.length + 6 + 2)) = x.page := by
        rw [numR_ext, list_txt, d6, c6, if_neg hs, Nat.add_sub_cancel_left, List.take_append_of_le_length (by rw [digs_len]; omega), List.take_of_length_le (by rw [digs_len]; omega), val_digs 2 _ (by omega), wrap_small (by omega)]
        omega
      rw [eb, ← hb]
  · unfold celN
    rw [eZ]
    unfold ceB
    by_cases hs : x.size ≤ 24
    · have hl : (x.bytes.size : Int) = x.size := by
        by_cases e : (x.bytes.size : Int) = x.size
        · exact e
        · rw [good_len hs e] at h; cases h
      have hb : x.bytes.data.toList.length = x.bytes.size := Array.length_toList ..
      rw [if_pos hs, if_pos hs, List.length_append, List.length_append, digs_len, digs_len]
      omega
    · rw [if_neg hs, if_neg hs, List.length_append, List.length_append, digs_len, digs_len, digs_len]
theorem leaf_split (C : List Ce) (k : Nat) (h : k < C.length) : ∃ R, leafL C = leafH C k ++ (ceB C[k] ++ R) := by
  have e : C.flatMap ceB = (C.take k).flatMap ceB ++ (ceB C[k] ++ (C.drop (k + 1)).flatMap ceB) := by
    conv => lhs; rw [← List.take_append_drop k C, List.drop_eq_getElem_cons h]
    rw [List.flatMap_append, List.flatMap_cons]
  refine ⟨(C.drop (k + 1)).flatMap ceB ++ List.replicate (128 - (leafH C C.length).length) 0, ?_⟩
  unfold leafL padL
  have e2 : leafH C C.length = leafH C k ++ (ceB C[k] ++ (C.drop (k + 1)).flatMap ceB) := by
    unfold leafH
    rw [List.take_length, e]
    simp
  generalize 128 - (leafH C C.length).length = z
  rw [e2]
  simp
theorem leafH_mono (C : List Ce) (k : Nat) (_h : k ≤ C.length) : (leafH C k).length ≤ (leafH C C.length).length := by
  have : leafH C C.length = leafH C k ++ (C.drop k).flatMap ceB := by
    unfold leafH
    rw [List.take_length]
    conv => lhs; rw [← List.take_append_drop k C]
    rw [List.flatMap_append]
    simp
  rw [this, List.length_append]
  omega
theorem run_back {C : List Ce} (h : leafOk C = true) : ∀ k, k ≤ C.length → runC (txt (leafL C)) k = some (C.take k, (leafH C k).length) := by
  simp only [leafOk, Bool.and_eq_true, List.all_eq_true, decide_eq_true_eq] at h
  intro k
  induction k with
  | zero =>
    intro _
    simp [runC, leafH, digs_len]
  | succ k ih =>
    intro hk
    have hg : ceGood C[k] = true := by
      have := h.1.2 k (List.mem_range.2 (by omega))
      simp only [ceOk, Bool.and_eq_true] at this
      have e : C.getD k noCe = C[k] := by simp [List.getD, show k < C.length by omega]
      rw [e] at this
      exact this.1
    obtain ⟨R, hR⟩ := leaf_split C k (by omega)
    obtain ⟨_, _, b3, b4⟩ := cel_back (A := leafH C k) (R := R) hg
    rw [← hR] at b3 b4
    have hm := leafH_mono C (k + 1) hk
    have e : C.getD k noCe = C[k] := by simp [List.getD, show k < C.length by omega]
    have hu := leafH_up C k (by omega)
    rw [e] at hu
    have hlen : (leafH C (k + 1)).length = (leafH C k).length + (ceB C[k]).length := by rw [hu, List.length_append]
    rw [runC, ih (by omega)]
    simp only
    rw [if_pos (by omega), b3, List.take_succ_eq_append_getElem (by omega)]
    congr 2
    omega
theorem leaf_cnt {C : List Ce} (h : C.length ≤ 200) : cntS (txt (leafL C)) = C.length := by
  have e : (leafL C).drop 1 = digs C.length 1 ++ (C.flatMap ceB ++ List.replicate (128 - (leafH C C.length).length) 0) := by
    simp only [leafL, padL, leafH, List.cons_append, List.drop_succ_cons, List.drop_zero, List.take_length, List.append_assoc]
  rw [cntS, list_txt, e, List.take_append_of_le_length (by rw [digs_len]; omega), List.take_of_length_le (by rw [digs_len]; omega), val_digs 1 _ (by omega)]
/-- What was laid is read as it was. -/
theorem leaf_back {C : List Ce} (h : leafOk C = true) : isLeaf (txt (leafL C)) = true ∧ cellsS (txt (leafL C)) = C := by
  have hh := h
  simp only [leafOk, Bool.and_eq_true, decide_eq_true_eq] at hh
  have hc := leaf_cnt (C := C) (by omega)
  have hr := run_back h C.length (Nat.le_refl _)
  rw [List.take_length] at hr
  have h1 : isLeaf (txt (leafL C)) = true := by
    have ht : (leafL C).take 1 = [76] := by simp only [leafL, padL, leafH, List.cons_append, List.take_succ_cons, List.take_zero]
    have hl : (leafL C).length = 128 := padL_len hh.2
    unfold isLeaf
    rw [hc, hr, list_txt, ht, txt_size, hl]
    simp [h]
  refine ⟨h1, ?_⟩
  unfold cellsS
  rw [if_pos h1, hc, hr]
end Go.Proofs.YtbkkhafckkndfaaGreat

namespace Go.Proofs.YtbkkhafckkndfaaGreat
open Go Go.RowKit

/-- A cell as a value. -/
def ceV (c : Ce) : Value := .agg #[.int .i64 c.key, .int .i64 c.size, .int .i64 c.page, .string c.bytes]
/-- There may be such a cell, whatever its key. -/
def rightC (c : Ce) : Bool := if c.size ≤ 24 then decide (c.page = 0) && decide ((c.bytes.size : Int) = c.size) else decide (c.size ≤ 900) && pageB c.page && decide (c.bytes = ByteArray.empty)
theorem good_right (c : Ce) : ceGood c = (keyB c.key && rightC c) := by
  unfold ceGood rightC
  by_cases hz : c.size ≤ 24
  · rw [if_pos hz, if_pos hz, Bool.eq_iff_iff]
    simp only [Bool.and_eq_true, decide_eq_true_eq]
    constructor
    · rintro ⟨⟨h1, h2⟩, h3⟩; exact ⟨h1, h3⟩
    · rintro ⟨h1, h3⟩; exact ⟨⟨h1, by omega⟩, h3⟩
  · rw [if_neg hz, if_neg hz, Bool.eq_iff_iff]
    simp only [Bool.and_eq_true, decide_eq_true_eq]
    constructor
    · rintro ⟨⟨h1, h2⟩, h3⟩; exact ⟨h1, ⟨h2.2, h3.1⟩, h3.2⟩
    · rintro ⟨h1, ⟨h2, h3⟩, h4⟩; exact ⟨⟨h1, by omega⟩, h3, h4⟩
theorem ceB_ge (c : Ce) : 6 ≤ (ceB c).length := by
  unfold ceB
  rw [List.length_append, List.length_append, digs_len, digs_len]
  omega
theorem leafH_ge (C : List Ce) : ∀ n, n ≤ C.length → 2 + 6 * n ≤ (leafH C n).length := by
  intro n
  induction n with
  | zero => intro _; simp [leafH, digs_len]
  | succ n ih =>
    intro hn
    have h1 := ih (by omega)
    have h3 := ceB_ge (C.getD n noCe)
    rw [leafH_up C n (by omega), List.length_append]
    omega
theorem leaf_much {C : List Ce} {k : Nat} (hk : k ≤ C.length) (h : 128 < (leafH C k).length) : leafOk C = false := by
  have := leafH_mono C k hk
  unfold leafOk
  rw [decide_eq_false (p := (leafH C C.length).length ≤ 128) (by omega)]
  simp
def lastC (C : List Ce) : Nat → Int
  | 0 => -1
  | k + 1 => (C.getD k noCe).key
theorem ceOk_last {C : List Ce} {k : Nat} (h : ∀ j, j < k → ceOk C j = true) : ceOk C k = ((decide (lastC C k < (C.getD k noCe).key) && decide ((C.getD k noCe).key ≤ 2147483647)) && rightC (C.getD k noCe)) := by
  cases k with
  | zero =>
    rw [ceOk_zero, good_right]
    congr 1
    rw [Bool.eq_iff_iff, keyB_iff]
    simp [lastC]
    omega
  | succ k =>
    have h1 := h k (by omega)
    have hk : keyB (C.getD k noCe).key = true := by
      simp only [ceOk, Bool.and_eq_true] at h1
      have := h1.1
      rw [good_right, Bool.and_eq_true] at this
      exact this.1
    have hk := (keyB_iff _).1 hk
    rw [ceOk_succ, good_right, Bool.eq_iff_iff]
    simp only [Bool.and_eq_true, decide_eq_true_eq, keyB_iff, lastC]
    constructor
    · rintro ⟨⟨h1, h2⟩, h3⟩; exact ⟨⟨decide_eq_true h3, h1.2⟩, h2⟩
    · rintro ⟨⟨h1, h2⟩, h3⟩; have h1 := of_decide_eq_true h1; exact ⟨⟨⟨by omega, h2⟩, h3⟩, h1⟩
theorem inline_any (size : Int) (w : World) : Calls Tryz.prog 89 #[.int .i64 size] w fun e w' => e = .returned (.bool (decide (size ≤ 24))) ∧ w' = w := by
  obtain ⟨k, hk⟩ : ∃ k, decide (size ≤ 24) = k := ⟨_, rfl⟩
  rw [hk]
  replace hk : Hid (decide (size ≤ 24) = k) := hk
  go_enter Tryz.func89, Tryz.ntmps89
  go_wp2
  all_goals
    go_ret
    refine ⟨ret_bool (Eq.trans ?_ hk.out), rfl⟩
    first | rfl | (simp; done) | (simp; omega)
set_option maxHeartbeats 1000000 in
theorem right_any (c : Ce) (w : World) : Calls Tryz.prog 74 #[ceV c] w fun e w' => e = .returned (.bool (rightC c)) ∧ Grew w w' := by
  obtain ⟨K, Z, Q, T⟩ := c
  have hI : Hid (∀ W, Calls Tryz.prog 89 #[.int .i64 Z] W fun e w' => e = .returned (.bool (decide (Z ≤ 24))) ∧ w' = W) := fun W => inline_any Z W
  have hP : Hid (∀ W, Calls Tryz.prog 77 #[.int .i64 Q] W fun e w' => e = .returned (.bool (pageB Q)) ∧ w' = W) := fun W => isPage_any Q W
  unfold ceV rightC
  dsimp only
  by_cases hz : Z ≤ 24
  · rw [if_pos hz]
    rw [decide_eq_true hz] at hI
    by_cases hq : Q = 0
    · by_cases hl : (T.size : Int) = Z
      · rw [decide_eq_true hq, decide_eq_true hl]
        go_enter Tryz.func74, Tryz.ntmps74
        go_wp2_with (first
          | (go_at_call 89; go_fit (hI.out _); rintro e w1 ⟨rfl, rfl⟩)
          | fail)
        go_ret
        exact ⟨ret_bool (by simp [*]), (Grew.refl w).alloc _ _⟩
      · rw [decide_eq_true hq, decide_eq_false hl]
        go_enter Tryz.func74, Tryz.ntmps74
        go_wp2_with (first
          | (go_at_call 89; go_fit (hI.out _); rintro e w1 ⟨rfl, rfl⟩)
          | fail)
        go_ret
        exact ⟨ret_bool (by simp [*]), (Grew.refl w).alloc _ _⟩
    · rw [decide_eq_false hq]
      go_enter Tryz.func74, Tryz.ntmps74
      go_wp2_with (first
        | (go_at_call 89; go_fit (hI.out _); rintro e w1 ⟨rfl, rfl⟩)
        | fail)
      go_ret
      exact ⟨ret_bool (by simp [*]), (Grew.refl w).alloc _ _⟩
  · rw [if_neg hz]
    rw [decide_eq_false hz] at hI
    by_cases h9 : Z ≤ 900
    · rw [decide_eq_true h9]
      cases hp : pageB Q with
      | false =>
        rw [hp] at hP
        go_enter Tryz.func74, Tryz.ntmps74
        go_wp2_with (first
          | (go_at_call 89; go_fit (hI.out _); rintro e w1 ⟨rfl, rfl⟩)
          | (go_at_call 77; go_fit (hP.out _); rintro e w1 ⟨rfl, rfl⟩)
          | fail)
        go_ret
        exact ⟨ret_bool (by simp [*]), (Grew.refl w).alloc _ _⟩
      | true =>
        rw [hp] at hP
        by_cases ht : T = ByteArray.empty
        · subst ht
          rw [decide_eq_true rfl]
          go_enter Tryz.func74, Tryz.ntmps74
          go_wp2_with (first
            | (go_at_call 89; go_fit (hI.out _); rintro e w1 ⟨rfl, rfl⟩)
            | (go_at_call 77; go_fit (hP.out _); rintro e w1 ⟨rfl, rfl⟩)
            | fail)
          go_ret
          exact ⟨ret_bool (by simp [*]), (Grew.refl w).alloc _ _⟩
        · rw [decide_eq_false ht]
          have ht' := not_empty ht
          clear ht
          go_enter Tryz.func74, Tryz.ntmps74
          go_wp2_with (first
            | (go_at_call 89; go_fit (hI.out _); rintro e w1 ⟨rfl, rfl⟩)
            | (go_at_call 77; go_fit (hP.out _); rintro e w1 ⟨rfl, rfl⟩)
            | fail)
          go_ret
          exact ⟨ret_bool (by simp [*]), (Grew.refl w).alloc _ _⟩
    · rw [decide_eq_false h9]
      go_enter Tryz.func74, Tryz.ntmps74
      go_wp2_with (first
        | (go_at_call 89; go_fit (hI.out _); rintro e w1 ⟨rfl, rfl⟩)
        | fail)
      go_ret
      exact ⟨ret_bool (by simp [*]), (Grew.refl w).alloc _ _⟩
theorem new4 (w : World) (a b c d : Value) (t : TypeId) : (w.alloc (.cells #[a, b, c, d] t)).cell? ⟨w.heap.size, 0, none⟩ = some a ∧ (w.alloc (.cells #[a, b, c, d] t)).cell? ⟨w.heap.size, 1, none⟩ = some b ∧ (w.alloc (.cells #[a, b, c, d] t)).cell? ⟨w.heap.size, 2, none⟩ = some c ∧ (w.alloc (.cells #[a, b, c, d] t)).cell? ⟨w.heap.size, 3, none⟩ = some d := by
  refine ⟨?_, ?_, ?_, ?_⟩ <;> rw [cell_of_row _ _ _ _ _ _ (heap_alloc_new _ _)] <;> rfl
set_option maxHeartbeats 1000000 in
theorem appendTo_any (w0 w : World) (v : Value) (D : List UInt8) (c : Ce) (hc : ceGood c = true) (h : Bt w0 w v D) (hD : D.length ≤ 1000) :
    Calls Tryz.prog 75 #[ceV c, v] w fun e w' => ∃ v', e = .returned v' ∧ Bt w0 w' v' (D ++ ceB c) ∧ Onto v v' w w' := by
  have hg := hc
  rw [good_right, Bool.and_eq_true] at hg
  obtain ⟨hk, hr⟩ := hg
  have hk := (keyB_iff _).1 hk
  have hz0 : 0 ≤ c.size ∧ c.size ≤ 900 := by
    by_cases e : c.size < 0 ∨ 900 < c.size
    · rw [good_size e] at hc; cases hc
    · omega
  unfold rightC at hr
  unfold ceB ceV
  obtain ⟨K, Z, Q, T⟩ := c
  dsimp only at hk hr hz0 hc ⊢
  obtain ⟨Kn, rfl⟩ := Int.eq_ofNat_of_zero_le hk.1
  obtain ⟨Zn, rfl⟩ := Int.eq_ofNat_of_zero_le hz0.1
  have hI : Hid (∀ W, Calls Tryz.prog 89 #[.int .i64 (Zn : Int)] W fun e w' => e = .returned (.bool (decide ((Zn : Int) ≤ 24))) ∧ w' = W) := fun W => inline_any _ W
  have hG : Grew w (w.alloc (.cells #[.int .i64 Kn, .int .i64 Zn, .int .i64 Q, .string T] 108)) := (Grew.refl w).alloc _ _
  obtain ⟨z0, z1, z2, z3⟩ := new4 w (.int .i64 Kn) (.int .i64 Zn) (.int .i64 Q) (.string T) 108
  have nz : v.ownBlock ≠ some w.heap.size := fun e => absurd (h.row.lt _ e).2 (Nat.lt_irrefl _)
  have hA := h.grew hG
  rw [Int.toNat_natCast, Int.toNat_natCast]
  by_cases hz : (Zn : Int) ≤ 24
  · rw [if_pos hz] at hr ⊢
    rw [decide_eq_true hz] at hI
    simp only [Bool.and_eq_true, decide_eq_true_eq] at hr
    have hT : T.size ≤ 24 := by omega
    obtain ⟨i0, hi0, hy0, hy1, hy2⟩ := byte_parts
    clear hc h hr
    go_enter Tryz.func75, Tryz.ntmps75
    go_wp2_with (first
      | (go_at_call 89; go_fit (hI.out _); rintro e w1 ⟨rfl, rfl⟩)
      | (go_at_call 78; go_fit (abig_any w0 _ _ _ Kn 4 (by omega) (by omega) (by omega) hA); rintro e w1 ⟨v1, rfl, hb1, ho1⟩; obtain ⟨y1, n1⟩ := ho1.cell z1 nz; obtain ⟨y2, _⟩ := ho1.cell z2 nz; obtain ⟨y3, _⟩ := ho1.cell z3 nz)
      | (go_at_call 78; go_fit (abig_any w0 _ _ _ Zn 2 (by omega) (by omega) (by rw [List.length_append, digs_len]; omega) hb1); rintro e w2 ⟨v2, rfl, hb2, ho2⟩; obtain ⟨x1, n2⟩ := ho2.cell y1 n1; obtain ⟨x2, _⟩ := ho2.cell y2 n1; obtain ⟨x3, _⟩ := ho2.cell y3 n1; have hbl := hb2.bel.size; have hln : (D ++ digs Kn 4 ++ digs Zn 2).length ≤ 1006 := (by rw [List.length_append, List.length_append, digs_len, digs_len]; omega); obtain ⟨a2, m2, cap2, rfl, hm2, hr2⟩ := hb2.slot; have hm3 : m2 ≤ 1006 := (by rw [hm2.out]; exact hln))
      | (at_builtin; refine wpList_app_str rfl (.tmp 16) (.tmp 18) 60 9 rfl w0.heap.size 5 i0 Tryz.underlying60 Tryz.underlying9 hi0 hy0 hy1 hy2 _ _ _ rfl hr2 T rfl (by unfold maxLen; omega) (by omega) hbl ?_; intro v3 w3 hv3 hg3 ho3)
      | fail)
    go_ret
    have hT2 : T.size = T.data.toList.length := (Array.length_toList ..).symm
    rw [hT2, hm2.out] at hv3
    obtain ⟨b1, b2⟩ := hb2.onto (X := T.data.toList) hv3 hg3 ho3
    refine ⟨v3, rfl, ?_, Onto.ahead hG (ho1.trans (ho2.trans b2))⟩
    simpa using b1
  · rw [if_neg hz] at hr ⊢
    rw [decide_eq_false hz] at hI
    simp only [Bool.and_eq_true, decide_eq_true_eq] at hr
    have hQ := (pageB_iff _).1 hr.1.2
    obtain ⟨Qn, rfl⟩ := Int.eq_ofNat_of_zero_le (show 0 ≤ Q by omega)
    rw [Int.toNat_natCast]
    clear hc h hr
    go_enter Tryz.func75, Tryz.ntmps75
    go_wp2_with (first
      | (go_at_call 89; go_fit (hI.out _); rintro e w1 ⟨rfl, rfl⟩)
      | (go_at_call 78; go_fit (abig_any w0 _ _ _ Qn 2 (by omega) (by omega) hln hb2); rintro e w3 ⟨v3, rfl, hb3, ho3⟩)
      | (go_at_call 78; go_fit (abig_any w0 _ _ _ Kn 4 (by omega) (by omega) (by omega) hA); rintro e w1 ⟨v1, rfl, hb1, ho1⟩; obtain ⟨y1, n1⟩ := ho1.cell z1 nz; obtain ⟨y2, _⟩ := ho1.cell z2 nz; obtain ⟨y3, _⟩ := ho1.cell z3 nz)
      | (go_at_call 78; go_fit (abig_any w0 _ _ _ Zn 2 (by omega) (by omega) (by rw [List.length_append, digs_len]; omega) hb1); rintro e w2 ⟨v2, rfl, hb2, ho2⟩; obtain ⟨x1, n2⟩ := ho2.cell y1 n1; obtain ⟨x2, _⟩ := ho2.cell y2 n1; obtain ⟨x3, _⟩ := ho2.cell y3 n1; have hln : (D ++ digs Kn 4 ++ digs Zn 2).length ≤ 100000 := (by rw [List.length_append, List.length_append, digs_len, digs_len]; omega))
      | fail)
    refine bodyPost_ret (v := v3) (by simp [results, Tryz.results75, go_sem]) rfl ?_
    refine ⟨v3, rfl, ?_, Onto.ahead hG (ho1.trans (ho2.trans ho3))⟩
    simpa using hb3
set_option maxRecDepth 10000 in
set_option maxHeartbeats 4000000 in
theorem leaf_any (C : List Ce) (a : Option Addr) (cap : Nat) (w : World) (hS : CellsAt w a C) (hm : C.length < 1000000) : Calls Tryz.prog 48 #[.slice a C.length cap] w fun e w' => e = .returned (.tuple #[.string (leafV C), .bool (leafOk C)]) ∧ Below w.heap.size w w' := by
  obtain ⟨n, hN⟩ : ∃ n, C.length = n := ⟨_, rfl⟩
  have hAll : Hid ((∀ k, k < n → ceOk C k = true) → (leafH C n).length ≤ 128 → leafV C = txt (padL (leafH C n)) ∧ leafOk C = true) := fun h hl => by
    have := leafH_ge C n (by omega)
    have := leaf_end (by omega) (fun k hk => h k (by omega))
    rw [hN, decide_eq_true hl] at this
    refine ⟨?_, this⟩
    unfold leafV leafL
    rw [this, if_pos rfl, hN]
  have hNone : Hid (∀ k, k < n → ceOk C k = false → Ending.returned (.tuple #[.string ByteArray.empty, .bool false]) = Ending.returned (.tuple #[.string (leafV C), .bool (leafOk C)])) := fun k hk h => by
    unfold leafV
    rw [leaf_no (by omega) h, if_neg (by decide)]
  have hMuch : Hid (∀ k, k ≤ n → 128 < (leafH C k).length → Ending.returned (.tuple #[.string ByteArray.empty, .bool false]) = Ending.returned (.tuple #[.string (leafV C), .bool (leafOk C)])) := fun k hk h => by
    unfold leafV
    rw [leaf_much (by omega) h, if_neg (by decide)]
  have h0 : Hid (leafH C 0 = 76 :: digs n 1) := by
    show _ = _
    rw [← hN]
    simp [leafH]
  rw [hN]
  have hNN : Hid (C.length = n) := hN
  have hnm : n < 1000000 := by omega
  clear hN hm
  have hB0 := bt_lit2 w 76 n ((n : Int) % 256) rfl
  rw [← h0.out] at hB0
  go_enter Tryz.func48, Tryz.ntmps48
  go_wp2
  go_loopw [4, 5, 14] (fun b last i wr => ∃ (k : Nat) (v : Value), k ≤ n ∧ i = .int .i64 k ∧ b = v ∧ last = .int .i64 (lastC C k) ∧ (∀ j, j < k → ceOk C j = true) ∧ (leafH C k).length ≤ 128 ∧ Bt w wr v (leafH C k)) (fun _ _ i _ => n - (intOf i).toNat)
  case atStart => exact ⟨0, _, by omega, rfl, rfl, rfl, fun j hj => absurd hj (by omega), by rw [h0.out]; simp [digs_len], hB0⟩
  case round =>
    clear hB0
    obtain ⟨k, v, hk, rfl, rfl, rfl, hok, hlk, hb⟩ := hrel
    by_cases hlt : k < n
    · have hki : (k : Int) < n := by omega
      obtain ⟨b, off, rfl, hcs⟩ := hS.resolve_left (fun e => by have := hNN.out; rw [e] at this; simp at this; omega)
      have hb0 := hcs k (by rw [hNN.out]; exact hlt)
      have hsl := ceOk_last hok
      have hup := leafH_up C k (by rw [hNN.out]; exact hlt)
      have hls : (C.getD k noCe).key = lastC C (k + 1) := rfl
      have hMk : Hid (128 < (leafH C (k + 1)).length → _) := hMuch.out (k + 1) (by omega)
      have hok1 : Hid (ceOk C k = true → ∀ j, j < k + 1 → ceOk C j = true) := fun h j hj => by
        by_cases e : j = k
        · rw [e, h]
        · exact hok j (by omega)
      have hgood : Hid (ceOk C k = true → ceGood (C.getD k noCe) = true) := fun h => by
        simp only [ceOk, Bool.and_eq_true] at h
        exact h.1
      obtain ⟨x, hx0⟩ : ∃ x, C.getD k noCe = x := ⟨_, rfl⟩
      rw [hx0] at hb0 hsl hup hls hgood
      obtain ⟨c0, c1, c2, c3⟩ := hb0
      have c0 := below_cell hb.bel c0
      have c1 := below_cell hb.bel c1
      have c2 := below_cell hb.bel c2
      have c3 := below_cell hb.bel c3
      clear hcs hx0 hok
      have hR : Hid (∀ W, Calls Tryz.prog 74 #[ceV x] W fun e w' => e = .returned (.bool (rightC x)) ∧ Grew W w') := fun W => right_any x W
      have hA : Hid (∀ W, ceGood x = true → Bt w W u4 (leafH C k) → Calls Tryz.prog 75 #[ceV x, u4] W fun e w' => ∃ v', e = .returned v' ∧ Bt w w' v' (leafH C k ++ ceB x) ∧ Onto u4 v' W w') := fun W h1 h2 => appendTo_any w W u4 _ x h1 h2 (by omega)
      rw [← hup] at hA
      obtain ⟨K, Z, Q, T⟩ := x
      unfold ceV at hR hA
      dsimp only at c0 c1 c2 c3 hR hA hsl hls
      have hF : Hid (∀ W, Calls Tryz.prog 73 #[.int .i64 K, .int .i64 (lastC C k)] W fun e w' => e = .returned (.bool (decide (lastC C k < K) && decide (K ≤ 2147483647))) ∧ w' = W) := fun W => follows_any K _ W
      cases hf : (decide (lastC C k < K) && decide (K ≤ 2147483647)) with
      | false =>
        rw [hf] at hF hsl
        have HE : Hid _ := hNone.out k hlt (by rw [hsl]; rfl)
        clear hf hsl hup hls hS hAll hNone hMuch hMk hok1 hgood hA hR
        go_wp2_with (first
          | (go_at_call 73; go_fit (hF.out _); rintro e w1 ⟨rfl, rfl⟩)
          | fail)
        go_ret2
        exact ⟨HE.out, (hb.grew ((Grew.refl _).alloc _ _)).bel⟩
      | true =>
        rw [hf] at hF hsl
        cases hp : rightC ⟨K, Z, Q, T⟩ with
        | false =>
          rw [hp] at hR hsl
          have HE : Hid _ := hNone.out k hlt (by rw [hsl]; rfl)
          obtain ⟨z0, z1, z2, z3⟩ := new4 wr (.int .i64 K) (.int .i64 Z) (.int .i64 Q) (.string T) 108
          clear hf hsl hup hls hS hAll hNone hMuch hMk hok1 hgood hA hp
          go_wp2_with (first
            | (go_at_call 73; go_fit (hF.out _); rintro e w1 ⟨rfl, rfl⟩)
            | (go_at_call 74; go_fit (hR.out _); rintro e w1 ⟨rfl, G1⟩)
            | fail)
          go_ret2
          exact ⟨HE.out, ((hb.grew ((Grew.refl _).alloc _ _)).grew G1).bel⟩
        | true =>
          rw [hp] at hR hsl
          have hg := hgood.out (by rw [hsl]; rfl)
          have hcur : Hid (∀ j, j < k + 1 → ceOk C j = true) := hok1.out (by rw [hsl]; rfl)
          have hbA : Bt w (wr.alloc (.cells #[.int .i64 K, .int .i64 Z, .int .i64 Q, .string T] 108)) u4 (leafH C k) := hb.grew ((Grew.refl _).alloc _ _)
          obtain ⟨z0, z1, z2, z3⟩ := new4 wr (.int .i64 K) (.int .i64 Z) (.int .i64 Q) (.string T) 108
          have nz : u4.ownBlock ≠ some wr.heap.size := fun e => absurd (hb.row.lt _ e).2 (Nat.lt_irrefl _)
          have hA1 : Hid (∀ W, Bt w W u4 (leafH C k) → Calls Tryz.prog 75 #[.agg #[.int .i64 K, .int .i64 Z, .int .i64 Q, .string T], u4] W fun e w' => ∃ v', e = .returned v' ∧ Bt w w' v' (leafH C (k + 1)) ∧ Onto u4 v' W w') := fun W h => hA.out W hg h
          replace hls : Hid (K = lastC C (k + 1)) := hls
          clear hf hsl hS hAll hNone hp hMuch hok1 hgood hA hup hg
          by_cases hlen : 128 < (leafH C (k + 1)).length
          · have HE : Hid _ := hMk.out hlen
            clear hMk
            go_wp2_with (first
              | (go_at_call 73; go_fit (hF.out _); rintro e w1 ⟨rfl, rfl⟩)
              | (go_at_call 74; go_fit (hR.out _); rintro e w1 ⟨rfl, G1⟩; replace hbA := hbA.grew G1; have y0 := G1.cell z0; have y1 := G1.cell z1; have y2 := G1.cell z2; have y3 := G1.cell z3)
              | (go_at_call 75; go_fit (hA1.out _ hbA); rintro e w2 ⟨v2, rfl, hb2, ho2⟩; obtain ⟨x0, n2⟩ := ho2.cell y0 nz; obtain ⟨a2, m2, cap2, rfl, hm2, hr2⟩ := hb2.slot; have hm3 : (128 : Int) < m2 := (by rw [hm2.out]; omega); clear hlen)
              | fail)
            go_ret2
            exact ⟨HE.out, hb2.bel⟩
          · clear hMk
            have hlen' : (leafH C (k + 1)).length ≤ 128 := by omega
            clear hlen
            go_wp2_with (first
              | (go_at_call 73; go_fit (hF.out _); rintro e w1 ⟨rfl, rfl⟩)
              | (go_at_call 74; go_fit (hR.out _); rintro e w1 ⟨rfl, G1⟩; replace hbA := hbA.grew G1; have y0 := G1.cell z0; have y1 := G1.cell z1; have y2 := G1.cell z2; have y3 := G1.cell z3)
              | (go_at_call 75; go_fit (hA1.out _ hbA); rintro e w2 ⟨v2, rfl, hb2, ho2⟩; obtain ⟨x0, n2⟩ := ho2.cell y0 nz; obtain ⟨a2, m2, cap2, rfl, hm2, hr2⟩ := hb2.slot; have hm3 : ¬ (128 : Int) < m2 := (by rw [hm2.out]; omega); have hm4 : (m2 : Int) ≤ 128 := (by omega))
              | fail)
            exact ⟨⟨k + 1, _, hlt, by simp, rfl, congrArg (Value.int .i64) hls.out, hcur.out, hlen', hb2⟩, meas_up hlt⟩
    · have hki : ¬ (k : Int) < n := by omega
      obtain rfl : k = n := by omega
      obtain ⟨v1, v2⟩ := hAll.out hok hlk
      replace v1 : Hid (leafV C = txt (padL (leafH C k))) := v1
      replace v2 : Hid (leafOk C = true) := v2
      have hne : Hid (leafH C k ≠ []) := fun e => by
        have hl := leafH_ge C k (by rw [hNN.out]; omega)
        rw [e, List.length_nil] at hl
        omega
      clear hok hAll hNone hMuch
      go_wp2_with (first | (go_at_call 76; go_fit (filled_any w _ _ _ hb hne.out hlk); rintro e w1 ⟨rfl, B⟩) | fail)
      go_ret2
      exact ⟨by rw [v1.out, v2.out]; rfl, hb.bel.trans (B.mono hb.bel.size)⟩
theorem fits_any (C : List Ce) (a : Option Addr) (cap : Nat) (w : World) (hS : CellsAt w a C) (hm : C.length < 1000000) : Calls Tryz.prog 67 #[.slice a C.length cap] w fun e w' => e = .returned (.bool (leafOk C)) ∧ Below w.heap.size w w' := by
  have hL : Hid (Calls Tryz.prog 48 #[.slice a C.length cap] w fun e w' => e = .returned (.tuple #[.string (leafV C), .bool (leafOk C)]) ∧ Below w.heap.size w w') := leaf_any C a cap w hS hm
  clear hS hm
  generalize leafV C = V at *
  generalize leafOk C = k at *
  generalize C.length = n at *
  go_enter Tryz.func67, Tryz.ntmps67
  go_wp2_with (first | (go_at_call 48; go_fit hL.out; rintro e w1 ⟨rfl, B⟩) | fail)
  go_ret
  exact ⟨rfl, B⟩
end Go.Proofs.YtbkkhafckkndfaaGreat

namespace Go.Proofs.YtbkkhafckkndfaaGreat
open Go Go.RowKit

/-- A variable of four cells. -/
structure V4 (w : World) (b : Nat) (a0 a1 a2 a3 : Value) : Prop where
  c0 : w.cell? ⟨b, 0, none⟩ = some a0
  c1 : w.cell? ⟨b, 1, none⟩ = some a1
  c2 : w.cell? ⟨b, 2, none⟩ = some a2
  c3 : w.cell? ⟨b, 3, none⟩ = some a3
  z0 : w.frozen? ⟨b, 0, none⟩ = false
  z1 : w.frozen? ⟨b, 1, none⟩ = false
  z2 : w.frozen? ⟨b, 2, none⟩ = false
  z3 : w.frozen? ⟨b, 3, none⟩ = false
section
variable {w w' : World} {b : Nat} {a0 a1 a2 a3 : Value}
theorem V4.lt (h : V4 w b a0 a1 a2 a3) : b < w.heap.size := cell_block h.c0
theorem V4.but {S : Nat → Prop} (h : V4 w b a0 a1 a2 a3) (g : But S w w') (hb : ¬ S b) : V4 w' b a0 a1 a2 a3 :=
  ⟨g.cell h.c0 hb, g.cell h.c1 hb, g.cell h.c2 hb, g.cell h.c3 hb, g.frozen h.lt hb h.z0, g.frozen h.lt hb h.z1, g.frozen h.lt hb h.z2, g.frozen h.lt hb h.z3⟩
theorem V4.grew (h : V4 w b a0 a1 a2 a3) (g : Grew w w') : V4 w' b a0 a1 a2 a3 := h.but (S := fun _ => False) (Go.Proofs.YtbkkhafckkndfaaGreat.Grew.but g) (fun e => e)
theorem V4.new (w : World) (a b c d : Value) (t : TypeId) : V4 (w.alloc (.cells #[a, b, c, d] t)) w.heap.size a b c d := by
  obtain ⟨h0, h1, h2, h3⟩ := new4 w a b c d t
  exact ⟨h0, h1, h2, h3, frozen_of_row _ _ _ _ _ (heap_alloc_new w _), frozen_of_row _ _ _ _ _ (heap_alloc_new w _), frozen_of_row _ _ _ _ _ (heap_alloc_new w _), frozen_of_row _ _ _ _ _ (heap_alloc_new w _)⟩
theorem V4.set2 (h : V4 w b a0 a1 a2 a3) (x : Value) : V4 (w.setCell ⟨b, 2, none⟩ x) b a0 a1 x a3 := by
  obtain ⟨c0, c1, c2, c3, z0, z1, z2, z3⟩ := h
  constructor <;> simp [c0, c1, c2, c3, z0, z1, z2, z3, go_sem]
theorem V4.set3 (h : V4 w b a0 a1 a2 a3) (x : Value) : V4 (w.setCell ⟨b, 3, none⟩ x) b a0 a1 a2 x := by
  obtain ⟨c0, c1, c2, c3, z0, z1, z2, z3⟩ := h
  constructor <;> simp [c0, c1, c2, c3, z0, z1, z2, z3, go_sem]
end
theorem numR_drop (s : ByteArray) (i k : Nat) : numR (txt ((s.data.toList.drop i).take k)) = numR (s.extract i (i + k)) := by
  rw [ext_list, Nat.add_sub_cancel_left]
set_option maxHeartbeats 4000000 in
theorem cell_any (p i : Nat) (s : ByteArray) (w : World) (h : PcAt w p (s.data.toList.drop i)) (hs : s.size ≤ 1000000000) :
    Calls Tryz.prog 83 #[.pointer (some ⟨p, 0, none⟩)] w fun e w' => e = .returned (ceV (celAt s i)) ∧ PcAt w' p (s.data.toList.drop (i + 6 + celN s i)) ∧ But (fun i => i = p) w w' := by
  obtain ⟨X, hX⟩ : ∃ X, s.data.toList.drop i = X := ⟨_, rfl⟩
  have hsl : s.data.toList.length = s.size := Array.length_toList ..
  have hXl : X.length ≤ 1000000000 := by rw [← hX, List.length_drop]; omega
  have eK : Hid (numR (txt (X.take 4)) = celK s i) := by show _ = _; rw [← hX, numR_drop]; rfl
  have eZ : Hid (numR (txt ((X.drop 4).take 2)) = celZ s i) := by show _ = _; rw [← hX, List.drop_drop, numR_drop]; rfl
  have eX : Hid (∀ k, (X.drop 6).drop k = s.data.toList.drop (i + 6 + k)) := fun k => by rw [← hX, List.drop_drop, List.drop_drop, Nat.add_assoc]
  have e6 : (X.drop 4).drop 2 = X.drop 6 := by rw [List.drop_drop]
  have eT : Hid (∀ k, txt ((X.drop 6).take k) = s.extract (i + 6) (i + 6 + k)) := fun k => by
    rw [← hX, List.drop_drop, ext_list, Nat.add_sub_cancel_left]
  have hZr := celZ_le s i
  obtain ⟨Zn, hZn⟩ := Int.eq_ofNat_of_zero_le hZr.1
  rw [hX] at h
  have hI : Hid (∀ W, Calls Tryz.prog 89 #[.int .i64 (celZ s i)] W fun e w' => e = .returned (.bool (decide (celZ s i ≤ 24))) ∧ w' = W) := fun W => inline_any _ W
  have hc : Hid (celAt s i = if celZ s i ≤ 24 then ⟨celK s i, celZ s i, 0, s.extract (i + 6) (i + 6 + celN s i)⟩ else ⟨celK s i, celZ s i, numR (s.extract (i + 6) (i + 6 + celN s i)), ByteArray.empty⟩) := by
    show _ = _
    unfold celAt
    rfl
  have hn : Hid (celN s i = if celZ s i ≤ 24 then (celZ s i).toNat else 2) := by
    show _ = _
    unfold celN
    rfl
  have hN0 : Hid (∀ W, PcAt W p X → Calls Tryz.prog 57 #[.pointer (some ⟨p, 0, none⟩), .int .i64 4] W fun e w' => e = .returned (.int .i64 (numR (txt (X.take 4)))) ∧ PcAt w' p (X.drop 4) ∧ But (fun i => i = p) W w') := fun W g => pnumber_any p 4 X W g hXl (by omega)
  have hN1 : Hid (∀ W, PcAt W p (X.drop 4) → Calls Tryz.prog 57 #[.pointer (some ⟨p, 0, none⟩), .int .i64 2] W fun e w' => e = .returned (.int .i64 (numR (txt ((X.drop 4).take 2)))) ∧ PcAt w' p ((X.drop 4).drop 2) ∧ But (fun i => i = p) W w') := fun W g => pnumber_any p 2 _ W g (by rw [List.length_drop]; omega) (by omega)
  rw [eK.out] at hN0
  rw [eZ.out, e6] at hN1
  rw [hZn] at hI hc hn hN1 hZr
  generalize celK s i = K at *
  have hp := h.lt
  have h0 := h.grew ((Grew.refl w).alloc #[.int .i64 0, .int .i64 0, .int .i64 0, .string ByteArray.empty] 108)
  have v0 := V4.new w (.int .i64 0) (.int .i64 0) (.int .i64 0) (.string ByteArray.empty) 108
  have hpw : ¬ w.heap.size = p := by omega
  have hB0 : But (fun i => i = p ∨ w.heap.size ≤ i) w (w.alloc (.cells #[.int .i64 0, .int .i64 0, .int .i64 0, .string ByteArray.empty] 108)) := (But.refl _ w).alloc _
  by_cases hz : (Zn : Int) ≤ 24
  · rw [decide_eq_true hz] at hI
    rw [if_pos hz] at hc hn
    rw [Int.toNat_natCast] at hn
    rw [hn.out] at hc
    rw [hn.out]
    have hT : Hid (∀ W, PcAt W p (X.drop 6) → Calls Tryz.prog 92 #[.pointer (some ⟨p, 0, none⟩), .int .i64 (Zn : Int)] W fun e w' => e = .returned (.string (txt ((X.drop 6).take Zn))) ∧ PcAt w' p ((X.drop 6).drop Zn) ∧ But (fun i => i = p) W w') := fun W g => ptext_any p Zn _ W g (by rw [List.length_drop]; omega) (by omega)
    rw [eT.out, eX.out] at hT
    rw [hc.out]
    generalize s.extract (i + 6) (i + 6 + Zn) = T at *
    unfold ceV
    dsimp only
    clear hc hn eK eZ eX e6 eT hX h hsl
    go_enter Tryz.func83, Tryz.ntmps83
    go_wp2_with (first
      | (go_at_call 89; go_fit (hI.out _); rintro e w3 ⟨rfl, rfl⟩)
      | (go_at_call 57; go_fit (hN0.out _ h0); rintro e w1 ⟨rfl, h1, B1⟩; have v1 := v0.but B1 hpw)
      | (go_at_call 57; go_fit (hN1.out _ h1); rintro e w2 ⟨rfl, h2, B2⟩; have v2 := v1.but B2 hpw; have u2 := V4.new w2 (.int .i64 K) (.int .i64 Zn) (.int .i64 0) (.string ByteArray.empty) 108; have hp2 : ¬ w2.heap.size = p := (fun e => by have := h2.lt; omega); have h3 := h2.grew ((Grew.refl w2).alloc #[.int .i64 K, .int .i64 Zn, .int .i64 0, .string ByteArray.empty] 108); have v3 := v2.grew ((Grew.refl w2).alloc #[.int .i64 K, .int .i64 Zn, .int .i64 0, .string ByteArray.empty] 108); obtain ⟨x0, x1, x2, x3, y0, y1, y2, y3⟩ := id u2; have hne : ¬ w2.heap.size = w.heap.size := (fun e => by have := v2.lt; omega); have hne2 : ¬ w.heap.size = w2.heap.size := (fun e => hne e.symm))
      | (go_at_call 92; go_fit (hT.out _ h3); rintro e w4 ⟨rfl, h4, B4⟩; have u4 := u2.but B4 hp2; have v4 := v3.but B4 hpw; obtain ⟨p0, p1, p2, p3, q0, q1, q2, q3⟩ := id u4; obtain ⟨r0, r1, r2, r3, s0, s1, s2, s3⟩ := id v4)
      | fail)
    have hs2 : w.heap.size ≤ w2.heap.size := Nat.le_of_lt v2.lt
    have hK4 : But (fun i => ¬ i = p) w4 (((((w4.setCell ⟨w2.heap.size, 3, none⟩ (.string T)).setCell ⟨w.heap.size, 0, none⟩ (.int .i64 K)).setCell ⟨w.heap.size, 1, none⟩ (.int .i64 Zn)).setCell ⟨w.heap.size, 2, none⟩ (.int .i64 0)).setCell ⟨w.heap.size, 3, none⟩ (.string T)) :=
      (((((But.refl (fun i => ¬ i = p) w4).set (b := w2.heap.size) hp2 3 none _).set (b := w.heap.size) hpw 0 none _).set (b := w.heap.size) hpw 1 none _).set (b := w.heap.size) hpw 2 none _).set (b := w.heap.size) hpw 3 none _
    have hB : But (fun i => i = p ∨ w.heap.size ≤ i) w w4 := (((hB0.trans (B1.more fun _ _ e => .inl e)).trans (B2.more fun _ _ e => .inl e)).alloc _).trans (B4.more fun _ _ e => .inl e)
    have hB5 := ((((hB.set (b := w2.heap.size) (.inr hs2) 3 none (.string T)).set (b := w.heap.size) (.inr (Nat.le_refl _)) 0 none (.int .i64 K)).set (b := w.heap.size) (.inr (Nat.le_refl _)) 1 none (.int .i64 Zn)).set (b := w.heap.size) (.inr (Nat.le_refl _)) 2 none (.int .i64 0)).set (b := w.heap.size) (.inr (Nat.le_refl _)) 3 none (.string T)
    refine bodyPost_ret (v := .agg #[.int .i64 K, .int .i64 Zn, .int .i64 0, .string T]) (by simp [results, Tryz.results83, go_sem, r0, r1, r2, r3]) rfl ⟨rfl, h4.but hK4 (fun e => e rfl), hB5.more fun n hn e => e.resolve_right (by omega)⟩
  · rw [decide_eq_false hz] at hI
    rw [if_neg hz] at hc hn
    rw [hn.out] at hc
    rw [hn.out]
    have hT : Hid (∀ W, PcAt W p (X.drop 6) → Calls Tryz.prog 57 #[.pointer (some ⟨p, 0, none⟩), .int .i64 2] W fun e w' => e = .returned (.int .i64 (numR (txt ((X.drop 6).take 2)))) ∧ PcAt w' p ((X.drop 6).drop 2) ∧ But (fun i => i = p) W w') := fun W g => pnumber_any p 2 _ W g (by rw [List.length_drop]; omega) (by omega)
    rw [eT.out, eX.out] at hT
    rw [hc.out]
    generalize numR (s.extract (i + 6) (i + 6 + 2)) = Q at *
    unfold ceV
    dsimp only
    clear hc hn eK eZ eX e6 eT hX h hsl
    go_enter Tryz.func83, Tryz.ntmps83
    go_wp2_with (first
      | (go_at_call 89; go_fit (hI.out _); rintro e w3 ⟨rfl, rfl⟩)
      | (go_at_call 57; go_fit (hT.out _ h3); rintro e w4 ⟨rfl, h4, B4⟩; have u4 := u2.but B4 hp2; have v4 := v3.but B4 hpw; obtain ⟨p0, p1, p2, p3, q0, q1, q2, q3⟩ := id u4; obtain ⟨r0, r1, r2, r3, s0, s1, s2, s3⟩ := id v4)
      | (go_at_call 57; go_fit (hN0.out _ h0); rintro e w1 ⟨rfl, h1, B1⟩; have v1 := v0.but B1 hpw)
      | (go_at_call 57; go_fit (hN1.out _ h1); rintro e w2 ⟨rfl, h2, B2⟩; have v2 := v1.but B2 hpw; have u2 := V4.new w2 (.int .i64 K) (.int .i64 Zn) (.int .i64 0) (.string ByteArray.empty) 108; have hp2 : ¬ w2.heap.size = p := (fun e => by have := h2.lt; omega); have h3 := h2.grew ((Grew.refl w2).alloc #[.int .i64 K, .int .i64 Zn, .int .i64 0, .string ByteArray.empty] 108); have v3 := v2.grew ((Grew.refl w2).alloc #[.int .i64 K, .int .i64 Zn, .int .i64 0, .string ByteArray.empty] 108); obtain ⟨x0, x1, x2, x3, y0, y1, y2, y3⟩ := id u2; have hne : ¬ w2.heap.size = w.heap.size := (fun e => by have := v2.lt; omega); have hne2 : ¬ w.heap.size = w2.heap.size := (fun e => hne e.symm))
      | fail)
    have hs2 : w.heap.size ≤ w2.heap.size := Nat.le_of_lt v2.lt
    have hK4 : But (fun i => ¬ i = p) w4 (((((w4.setCell ⟨w2.heap.size, 2, none⟩ (.int .i64 Q)).setCell ⟨w.heap.size, 0, none⟩ (.int .i64 K)).setCell ⟨w.heap.size, 1, none⟩ (.int .i64 Zn)).setCell ⟨w.heap.size, 2, none⟩ (.int .i64 Q)).setCell ⟨w.heap.size, 3, none⟩ (.string ByteArray.empty)) :=
      (((((But.refl (fun i => ¬ i = p) w4).set (b := w2.heap.size) hp2 2 none _).set (b := w.heap.size) hpw 0 none _).set (b := w.heap.size) hpw 1 none _).set (b := w.heap.size) hpw 2 none _).set (b := w.heap.size) hpw 3 none _
    have hB : But (fun i => i = p ∨ w.heap.size ≤ i) w w4 := (((hB0.trans (B1.more fun _ _ e => .inl e)).trans (B2.more fun _ _ e => .inl e)).alloc _).trans (B4.more fun _ _ e => .inl e)
    have hB5 := ((((hB.set (b := w2.heap.size) (.inr hs2) 2 none (.int .i64 Q)).set (b := w.heap.size) (.inr (Nat.le_refl _)) 0 none (.int .i64 K)).set (b := w.heap.size) (.inr (Nat.le_refl _)) 1 none (.int .i64 Zn)).set (b := w.heap.size) (.inr (Nat.le_refl _)) 2 none (.int .i64 Q)).set (b := w.heap.size) (.inr (Nat.le_refl _)) 3 none (.string ByteArray.empty)
    refine bodyPost_ret (v := .agg #[.int .i64 K, .int .i64 Zn, .int .i64 Q, .string ByteArray.empty]) (by simp [results, Tryz.results83, go_sem, r0, r1, r2, r3]) rfl ⟨rfl, h4.but hK4 (fun e => e rfl), hB5.more fun n hn e => e.resolve_right (by omega)⟩
end Go.Proofs.YtbkkhafckkndfaaGreat

namespace Go.Proofs.YtbkkhafckkndfaaGreat
open Go Go.RowKit

/-! ### What is read is what was laid -/
theorem cnt_lt (s : ByteArray) : cntS s < 256 := by
  unfold cntS
  obtain ⟨l, hl⟩ : ∃ l, (s.data.toList.drop 1).take 1 = l := ⟨_, rfl⟩
  have hlen : l.length ≤ 1 := by rw [← hl, List.length_take]; omega
  rw [hl]
  have := valL_lt l.length l rfl
  have e : l.length = 0 ∨ l.length = 1 := by omega
  rcases e with e | e <;> rw [e] at this <;> simp at this <;> omega
theorem isIdx_code (s : ByteArray) : isIdx s = (idxOk (rawS s (cntS s)) && decide (txt (idxL (rawS s (cntS s))) = s)) := by
  rw [Bool.eq_iff_iff]
  constructor
  · intro h
    unfold isIdx at h
    rw [Bool.and_eq_true] at h
    exact h.2
  · intro h
    rw [Bool.and_eq_true, decide_eq_true_eq] at h
    have := (idx_back h.1).1
    rw [h.2] at this
    exact this
/-- The first k cells of a page, whatever is there, and where the next one begins. -/
def totC (s : ByteArray) : Nat → List Ce × Nat
  | 0 => ([], 2)
  | k + 1 => ((totC s k).1 ++ [celAt s (totC s k).2], (totC s k).2 + 6 + celN s (totC s k).2)
theorem tot_len (s : ByteArray) : ∀ k, (totC s k).1.length = k := by
  intro k
  induction k with
  | zero => rfl
  | succ k ih => simp [totC, ih]
theorem tot_run (s : ByteArray) : ∀ k r, runC s k = some r → totC s k = r := by
  intro k
  induction k with
  | zero => intro r h; simpa [runC, totC] using h
  | succ k ih =>
    intro r h
    rw [runC] at h
    cases e : runC s k with
    | none => rw [e] at h; cases h
    | some x =>
      obtain ⟨C, i⟩ := x
      rw [e] at h
      simp only at h
      split at h
      · rw [totC, ih _ e]
        simpa using h
      · cases h
theorem isLeaf_code (s : ByteArray) : isLeaf s = (leafOk (totC s (cntS s)).1 && decide (txt (leafL (totC s (cntS s)).1) = s)) := by
  rw [Bool.eq_iff_iff]
  constructor
  · intro h
    unfold isLeaf at h
    rw [Bool.and_eq_true] at h
    have h2 := h.2
    cases e : runC s (cntS s) with
    | none => rw [e] at h2; cases h2
    | some x =>
      obtain ⟨C, i⟩ := x
      rw [e] at h2
      rw [tot_run s _ _ e]
      exact h2
  · intro h
    rw [Bool.and_eq_true, decide_eq_true_eq] at h
    have := (leaf_back h.1).1
    rw [h.2] at this
    exact this
theorem cells_code {s : ByteArray} (h : isLeaf s = true) : cellsS s = (totC s (cntS s)).1 := by
  unfold cellsS
  rw [if_pos h]
  have h' := h
  unfold isLeaf at h'
  rw [Bool.and_eq_true] at h'
  have h2 := h'.2
  cases e : runC s (cntS s) with
  | none => rw [e] at h2; cases h2
  | some x =>
    obtain ⟨C, i⟩ := x
    rw [tot_run s _ _ e]
theorem isLink_code (l : List UInt8) : isLink l = (chainOk (linkN l) (linkT l) && decide (chainL (linkN l) (linkT l) = l)) := by
  rw [Bool.eq_iff_iff]
  constructor
  · intro h
    obtain ⟨h1, h2⟩ := link_is h
    rw [h1, decide_eq_true h2]
    rfl
  · intro h
    rw [Bool.and_eq_true, decide_eq_true_eq] at h
    exact (isLink_iff l).2 ⟨_, _, h.1, h.2⟩

/-! ### Slots -/
set_option maxRecDepth 100000 in
theorem info_sslot : ∃ (i : TypeInfo) (z : Value), (Tryz.prog).info? 104 = some i ∧ i.zero = some z ∧ z.cells.size = 2 ∧ i.size = 2 ∧ i.bytes = 16 := ⟨_, _, rfl, rfl, rfl, rfl, rfl⟩
theorem grown_but {w w' : World} {v : Value} (hg : w.grownBy w' v.ownBlock) : But (fun i => v.ownBlock = some i) w w' := ⟨hg.os, hg.tape, hg.output, hg.size, fun i hi hn => hg.block i hi (fun e => hn e.symm)⟩
theorem own_ne {w : World} {v v' : Value} {p : Nat} (ho : v'.ownBlock = v.ownBlock ∨ v'.ownBlock = some w.heap.size) (hp : v.ownBlock ≠ some p) (hl : p < w.heap.size) : v'.ownBlock ≠ some p := by
  rcases ho with ho | ho
  · rw [ho]; exact hp
  · rw [ho]
    intro e
    cases e
    exact absurd hl (Nat.lt_irrefl _)
theorem pc_new (w : World) (s : ByteArray) (t : TypeId) : PcAt (w.alloc (.cells #[.string s] t)) w.heap.size s.data.toList := by
  refine ⟨?_, frozen_of_row _ _ _ _ _ (heap_alloc_new w _)⟩
  rw [cell_of_row _ _ _ _ _ _ (heap_alloc_new _ _), txt_list]
  rfl
def SBack (w : World) (s : ByteArray) (e : Ending) (w' : World) : Prop := ∃ v, e = .returned (.tuple #[v, .bool (isIdx s)]) ∧ w'.ownsRow w.heap.size 104 2 v (idxS s).length (slsV (idxS s)) ∧ Below w.heap.size w w'
theorem sback_none {w w' : World} {s : ByteArray} (h : isIdx s = false) (B : Below w.heap.size w w') : SBack w s (.returned (.tuple #[.slice none 0 0, .bool false])) w' := by
  refine ⟨_, by rw [h], ?_, B⟩
  unfold idxS
  rw [h, if_neg (by decide)]
  exact World.ownsRow_nil _ _ _ _
set_option maxRecDepth 10000 in
set_option maxHeartbeats 4000000 in
theorem slots_any (s : ByteArray) (w : World) (hs : s.size ≤ 1000000000) : Calls Tryz.prog 35 #[.string s] w fun e w' => SBack w s e w' := by
  obtain ⟨iw, zw, i1, i2, i3, i4, i5⟩ := info_sslot
  obtain ⟨n, hn⟩ : ∃ n, cntS s = n := ⟨_, rfl⟩
  have hn256 : n < 256 := by rw [← hn]; exact cnt_lt s
  have eI := isIdx_code s
  have hsl : s.data.toList.length = s.size := Array.length_toList ..
  have eC : numR (txt ((s.data.toList.drop 1).take 1)) = n := by
    show wrap64 (valL ((s.data.toList.drop 1).take 1)) = n
    have : valL ((s.data.toList.drop 1).take 1) = n := hn
    rw [this, wrap_small (by omega)]
  rw [hn] at eI
  have hYes : Hid (isIdx s = true → idxS s = rawS s n) := fun h => by unfold idxS; rw [if_pos h, hn]
  have hNo : Hid (isIdx s = false → ∀ w', Below w.heap.size w w' → SBack w s (.returned (.tuple #[.slice none 0 0, .bool false])) w') := fun h w' B => sback_none h B
  obtain ⟨p, hp⟩ : ∃ p, w.heap.size = p := ⟨_, rfl⟩
  obtain ⟨X, hX⟩ : ∃ X, s.data.toList = X := ⟨_, rfl⟩
  have hXl : X.length ≤ 1000000000 := by rw [← hX]; omega
  have hP0 : Hid (PcAt (w.alloc (.cells #[.string s] 130)) p X) := by rw [← hp, ← hX]; exact pc_new w s _
  have hT0 : Hid (Calls Tryz.prog 56 #[.pointer (some ⟨p, 0, none⟩), .int .i64 1] (w.alloc (.cells #[.string s] 130)) fun e w' => e = .returned (.string (txt (X.take 1))) ∧ PcAt w' p (X.drop 1) ∧ But (fun i => i = p) (w.alloc (.cells #[.string s] 130)) w') := take_any p 1 X _ hP0.out hXl (by omega)
  have hT1 : Hid (∀ W, PcAt W p (X.drop 1) → Calls Tryz.prog 57 #[.pointer (some ⟨p, 0, none⟩), .int .i64 1] W fun e w' => e = .returned (.int .i64 n) ∧ PcAt w' p (X.drop 2) ∧ But (fun i => i = p) W w') := fun W h => by
    have := pnumber_any p 1 (X.drop 1) W h (by rw [List.length_drop]; omega) (by omega)
    rw [← hX, List.drop_drop, eC, hX] at this
    exact this
  have hNa : Hid (∀ k W, PcAt W p (X.drop (2 + 6 * k)) → Calls Tryz.prog 57 #[.pointer (some ⟨p, 0, none⟩), .int .i64 4] W fun e w' => e = .returned (.int .i64 (slAt s k).key) ∧ PcAt w' p ((X.drop (2 + 6 * k)).drop 4) ∧ But (fun i => i = p) W w') := fun k W h => by
    have := pnumber_any p 4 (X.drop (2 + 6 * k)) W h (by rw [List.length_drop]; omega) (by omega)
    have e : numR (txt ((X.drop (2 + 6 * k)).take 4)) = (slAt s k).key := by
      show _ = numR (s.extract (2 + 6 * k) (6 + 6 * k))
      rw [← hX, numR_drop, show 2 + 6 * k + 4 = 6 + 6 * k by omega]
    rw [e] at this
    exact this
  have hNb : Hid (∀ k W, PcAt W p ((X.drop (2 + 6 * k)).drop 4) → Calls Tryz.prog 57 #[.pointer (some ⟨p, 0, none⟩), .int .i64 2] W fun e w' => e = .returned (.int .i64 (slAt s k).page) ∧ PcAt w' p (X.drop (2 + 6 * (k + 1))) ∧ But (fun i => i = p) W w') := fun k W h => by
    have := pnumber_any p 2 ((X.drop (2 + 6 * k)).drop 4) W h (by rw [List.length_drop, List.length_drop]; omega) (by omega)
    have e : numR (txt (((X.drop (2 + 6 * k)).drop 4).take 2)) = (slAt s k).page := by
      show _ = numR (s.extract (6 + 6 * k) (8 + 6 * k))
      rw [← hX, List.drop_drop, numR_drop, show 2 + 6 * k + 4 = 6 + 6 * k by omega, show 6 + 6 * k + 2 = 8 + 6 * k by omega]
    rw [e, List.drop_drop, List.drop_drop, show 2 + 6 * k + 4 + 2 = 2 + 6 * (k + 1) by omega] at this
    exact this
  have hBw : Hid (Below p w (w.alloc (.cells #[.string s] 130))) := (by rw [← hp]; exact (Below.refl _ w).alloc (Nat.le_refl _) _ : Below p w (w.alloc (.cells #[.string s] 130)))
  have hn0 : (0 : Int) ≤ n := by omega
  clear eC hsl hn hXl hX
  go_enter Tryz.func35, Tryz.ntmps35
  rw [hp] at hNo
  go_wp2_with (first
    | (go_at_call 56; go_fit hT0.out; rintro e w1 ⟨rfl, h1, B1⟩)
    | (go_at_call 57; go_fit (hT1.out _ h1); rintro e w2 ⟨rfl, h2, B2⟩)
    | fail)
  have hpp : ∀ i, i = p → p ≤ i := fun i e => Nat.le_of_eq e.symm
  have hlt2 := h2.lt
  have hB2 : Hid (Below p w w2) := (hBw.out.trans (B1.below hpp (Nat.le_of_lt hP0.out.lt))).trans (B2.below hpp (Nat.le_of_lt h1.lt))
  clear hT0 hT1 hP0 hBw h1 B1 B2
  go_loopw [5, 11] (fun l i wr => ∃ (k : Nat) (a : Option Addr) (cp : Nat), k ≤ n ∧ i = .int .i64 k ∧ l = .slice a k cp ∧ wr.ownsRow p 104 2 (.slice a k cp) k (slsV (rawS s k)) ∧ PcAt wr p (X.drop (2 + 6 * k)) ∧ Below p w wr ∧ (Value.slice a k cp).ownBlock ≠ some p) (fun _ i _ => n - (intOf i).toNat)
  case atStart => exact ⟨0, none, 0, by omega, rfl, rfl, World.ownsRow_nil _ _ _ _, h2, hB2.out, fun e => by cases e⟩
  case round =>
    clear hB2 h2 hlt2
    obtain ⟨k, a, cp, hk, rfl, rfl, hr, hP, hB, ho⟩ := hrel
    have hpl := hP.lt
    by_cases hlt : k < n
    · have hki : (k : Int) < n := by omega
      have hup : Hid (slsV (rawS s (k + 1)) = slsV (rawS s k) ++ [.int .i64 (slAt s k).key, .int .i64 (slAt s k).page]) := by
        show _ = _
        rw [rawS_up, sls_more]
        rfl
      have hA := hNa.out k
      have hC := hNb.out k
      obtain ⟨A, hA0⟩ : ∃ A, (slAt s k).key = A := ⟨_, rfl⟩
      obtain ⟨Q, hQ0⟩ : ∃ Q, (slAt s k).page = Q := ⟨_, rfl⟩
      rw [hA0] at hA hup
      rw [hQ0] at hC hup
      obtain ⟨Y, hY⟩ : ∃ Y, (X.drop (2 + 6 * k)).drop 4 = Y := ⟨_, rfl⟩
      rw [hY] at hA hC
      replace hA : Hid (∀ W, PcAt W p (X.drop (2 + 6 * k)) → Calls Tryz.prog 57 #[.pointer (some ⟨p, 0, none⟩), .int .i64 4] W fun e w' => e = .returned (.int .i64 A) ∧ PcAt w' p Y ∧ But (fun i => i = p) W w') := hA
      replace hC : Hid (∀ W, PcAt W p Y → Calls Tryz.prog 57 #[.pointer (some ⟨p, 0, none⟩), .int .i64 2] W fun e w' => e = .returned (.int .i64 Q) ∧ PcAt w' p (X.drop (2 + 6 * (k + 1))) ∧ But (fun i => i = p) W w') := hC
      clear hA0 hQ0 hY hNa hNb hYes hNo eI
      go_wp2_with (first
        | (go_at_call 57; go_fit (hA.out _ hP); rintro e w3 ⟨rfl, h3, B3⟩)
        | (go_at_call 57; go_fit (hC.out _ h3); rintro e w4 ⟨rfl, h4, B4⟩; have r4 := row_but (row_but hr B3 (fun i e e2 => ho (by rw [e, e2]))) B4 (fun i e e2 => ho (by rw [e, e2])); have hB4 := (hB.trans (B3.below hpp (Nat.le_of_lt hpl))).trans (B4.below hpp (Nat.le_of_lt h3.lt)); have hl4 := h4.lt)
        | (at_builtin; refine wpList_app _ rfl (.tmp 13) (.tmp 17) 101 rfl p 104 iw zw 2 16 Tryz.underlying101 i1 i2 i4 i5 i3 (by decide) (.slice a k cp) k _ rfl (r4.alloc _) (some ⟨w4.heap.size, 0, none⟩) 1 1 [.int .i64 A, .int .i64 Q] rfl rfl (.inr ⟨_, 0, rfl, fun j u hj => pair_at w4 _ _ _ j u hj⟩) (fun u hu => by simp at hu; rcases hu with rfl | rfl <;> rfl) (by unfold maxLen; omega) (by omega) (by simp; omega) ?_; intro v5 w5 hv5 hg5 hk5 hl5)
        | fail)
      obtain ⟨a5, c5, rfl, _⟩ := own_reads hv5
      have G4 : Grew w4 (w4.alloc (.cells #[.int .i64 A, .int .i64 Q] 104)) := (Grew.refl w4).alloc _ _
      have hs4 := G4.size
      refine ⟨⟨k + 1, a5, c5, hlt, by simp, rfl, ?_, (h4.grew G4).but (grown_but hg5) ho, ((hB4.trans (G4.below.mono (Nat.le_of_lt hl4)))).trans ((grown_but hg5).below (fun i e => (hr.lt i e).1) (by omega)), own_ne hl5 ho (by omega)⟩, meas_up hlt⟩
      rw [hup.out]
      exact hv5
    · have hki : ¬ (k : Int) < n := by omega
      obtain rfl : k = n := by omega
      obtain ⟨a', cp', e9, hSl⟩ := slots_of hr
      obtain ⟨rfl, _, rfl⟩ : a = a' ∧ k = k ∧ cp = cp' := by simpa using e9
      have hlen : (rawS s k).length = k := rawS_len s k
      have hX : Hid (Calls Tryz.prog 50 #[.slice a k cp] wr fun e w' => e = .returned (.tuple #[.string (idxV (rawS s k)), .bool (idxOk (rawS s k))]) ∧ Below wr.heap.size wr w') := by
        show Calls _ _ _ _ _
        have := index_any (rawS s k) a cp wr hSl (by omega)
        rw [hlen] at this
        exact this
      replace hr : Hid (wr.ownsRow p 104 2 (.slice a k cp) k (slsV (rawS s k))) := hr
      replace hB : Hid (Below p w wr) := hB
      replace hYes : Hid (isIdx s = true → idxS s = rawS s k) := hYes
      replace eI : Hid (isIdx s = (idxOk (rawS s k) && decide (txt (idxL (rawS s k)) = s))) := eI
      replace hlen : Hid ((rawS s k).length = k) := hlen
      have hv : idxV (rawS s k) = if idxOk (rawS s k) then txt (idxL (rawS s k)) else ByteArray.empty := rfl
      rw [hv] at hX
      clear e9 hSl hNa hNb hv hP ho
      generalize rawS s k = T at *
      cases hko : idxOk T with
      | false =>
        rw [hko, if_neg (by decide)] at hX
        rw [hko] at eI
        have hE : Hid _ := hNo.out (by rw [eI.out]; rfl)
        clear hko eI hYes hNo
        go_wp2_with (first | (go_at_call 50; go_fit hX.out; rintro e w1 ⟨rfl, G⟩) | fail)
        go_ret2
        exact hE.out _ (hB.out.trans (G.mono (Nat.le_of_lt hpl)))
      | true =>
        rw [hko, if_pos rfl] at hX
        rw [hko] at eI
        by_cases hq : txt (idxL T) = s
        · rw [hq] at hX
          have hE := hYes.out (by rw [eI.out, hq]; simp)
          have hT : Hid (isIdx s = true) := (by rw [eI.out, hq]; simp : isIdx s = true)
          replace hE : Hid (idxS s = T) := hE
          clear hko eI hYes hNo hq
          go_wp2_with (first | (go_at_call 50; go_fit hX.out; rintro e w1 ⟨rfl, G⟩) | fail)
          go_ret2
          refine ⟨_, by rw [hT.out]; rfl, ?_, by rw [hp]; exact hB.out.trans (G.mono (Nat.le_of_lt hpl))⟩
          rw [hE.out, hp, hlen.out]
          exact row_below hr.out G
        · have hne := bytes_ne' hq
          have hE : Hid _ := hNo.out (by rw [eI.out, decide_eq_false hq]; rfl)
          clear hko eI hYes hNo hq
          generalize txt (idxL T) = Z at *
          go_wp2_with (first | (go_at_call 50; go_fit hX.out; rintro e w1 ⟨rfl, G⟩) | fail)
          go_ret2
          exact hE.out _ (hB.out.trans (G.mono (Nat.le_of_lt hpl)))
end Go.Proofs.YtbkkhafckkndfaaGreat
