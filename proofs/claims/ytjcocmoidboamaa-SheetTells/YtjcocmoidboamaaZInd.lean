/-
  Package sheet's Index: slots in memory, as a page.
-/
import Derived.Test.YtjcocmoidboamaaZPiece
import Derived.Test.YtjcocmoidboamaaZBack
namespace Go.Proofs.Ytjcocmoidboamaa
open Go Go.RowKit

theorem follows_any (key last : Int) (w : World) : Calls Try.prog 29 #[.int .i64 key, .int .i64 last] w fun e w' => e = .returned (.bool (decide (last < key) && decide (key ≤ 2147483647))) ∧ w' = w := by
  obtain ⟨k, hk⟩ : ∃ k, (decide (last < key) && decide (key ≤ 2147483647)) = k := ⟨_, rfl⟩
  rw [hk]
  replace hk : Hid ((decide (last < key) && decide (key ≤ 2147483647)) = k) := hk
  go_enter Try.func29, Try.ntmps29
  go_wp2
  all_goals
    go_ret
    refine ⟨ret_bool ?_, rfl⟩
    rw [← hk.out]
    simp
    omega
theorem isPage_any (n : Int) (w : World) : Calls Try.prog 30 #[.int .i64 n] w fun e w' => e = .returned (.bool (pageB n)) ∧ w' = w := by
  obtain ⟨k, hk⟩ : ∃ k, pageB n = k := ⟨_, rfl⟩
  rw [hk]
  replace hk : Hid (pageB n = k) := hk
  go_enter Try.func30, Try.ntmps30
  go_wp2
  all_goals
    go_ret
    refine ⟨ret_bool ?_, rfl⟩
    rw [← hk.out]
    unfold pageB
    simp
    omega
/-- The key ahead of the k-th slot. -/
def lastS (S : List Sl) : Nat → Int
  | 0 => -1
  | k + 1 => (S.getD k ⟨0, 0⟩).key
theorem slOk_last {S : List Sl} {k : Nat} (h : ∀ j, j < k → slOk S j = true) : slOk S k = ((decide (lastS S k < (S.getD k ⟨0, 0⟩).key) && decide ((S.getD k ⟨0, 0⟩).key ≤ 2147483647)) && pageB (S.getD k ⟨0, 0⟩).page) := by
  cases k with
  | zero =>
    rw [slOk_zero]
    congr 1
    rw [Bool.eq_iff_iff, keyB_iff]
    simp [lastS]
    omega
  | succ k =>
    have h1 := h k (by omega)
    have hk : keyB (S.getD k ⟨0, 0⟩).key = true := by
      simp only [slOk, Bool.and_eq_true] at h1
      exact h1.1.1
    have hk := (keyB_iff _).1 hk
    rw [slOk_succ, Bool.eq_iff_iff]
    simp only [Bool.and_eq_true, decide_eq_true_eq, keyB_iff, lastS]
    constructor
    · rintro ⟨⟨h1, h2⟩, h3⟩; exact ⟨⟨decide_eq_true h3, h1.2⟩, h2⟩
    · rintro ⟨⟨h1, h2⟩, h3⟩; have h1 := of_decide_eq_true h1; exact ⟨⟨⟨by omega, h2⟩, h3⟩, h1⟩
theorem bt_lit2 (w : World) (x : UInt8) (n : Nat) (c : Int) (hc : c = (n : Int) % 256) : Bt w (w.alloc (.cells #[.int .u8 x.toNat, .int .u8 c] 5)) (.slice (some ⟨w.heap.size, 0, none⟩) 2 2) (x :: digs n 1) := by
  refine ⟨?_, (Below.refl _ w).alloc (Nat.le_refl _) _⟩
  have := World.ownsRow_lit (e := 5) (base := w.heap.size) (size := 1) w #[.int .u8 x.toNat, .int .u8 c] 2 (by omega) (by have : maxLen = 9223372036854775807 := rfl; omega) rfl
  have e : u8V (x :: digs n 1) = [.int .u8 x.toNat, .int .u8 c] := by rw [hc]; simp [u8V, digs]
  have el : (x :: digs n 1).length = 2 := by simp [digs_len]
  rw [e, el]
  exact this
set_option maxRecDepth 10000 in
set_option maxHeartbeats 4000000 in
theorem index_any (S : List Sl) (a : Option Addr) (cap : Nat) (w : World) (hS : SlotsAt w a S) (hm : S.length < 1000000) : Calls Try.prog 10 #[.slice a S.length cap] w fun e w' => e = .returned (.tuple #[.string (idxV S), .bool (idxOk S)]) ∧ Below w.heap.size w w' := by
  by_cases hn : 21 < S.length
  · have hni : (21 : Int) < S.length := by omega
    unfold idxV
    rw [idx_long hn, if_neg (by decide)]
    clear hn hS
    go_enter Try.func10, Try.ntmps10
    go_wp2
    go_ret2
    exact ⟨rfl, Below.refl _ _⟩
  have hni : ¬ (21 : Int) < S.length := by omega
  obtain ⟨n, hN⟩ : ∃ n, S.length = n := ⟨_, rfl⟩
  have hAll : Hid ((∀ k, k < n → slOk S k = true) → idxV S = txt (padL (idxH S n)) ∧ idxOk S = true) := fun h => by
    have := idx_yes (by omega) (fun k hk => h k (by omega))
    refine ⟨?_, this⟩
    unfold idxV idxL
    rw [this, if_pos rfl, hN]
  have hNone : Hid (∀ k, k < n → slOk S k = false → Ending.returned (.tuple #[.string ByteArray.empty, .bool false]) = Ending.returned (.tuple #[.string (idxV S), .bool (idxOk S)])) := fun k hk h => by
    unfold idxV
    rw [idx_no (by omega) h, if_neg (by decide)]
  have hLen : Hid (∀ k, k ≤ n → (idxH S k).length = 2 + 6 * k) := fun k hk => idxH_len S k (by omega)
  have h0 : Hid (idxH S 0 = 73 :: digs n 1) := by
    show _ = _
    rw [← hN]
    simp [idxH]
  rw [hN]
  have hni : ¬ (21 : Int) < n := by omega
  have hNN : Hid (S.length = n) := hN
  have hn21 : n ≤ 21 := by omega
  clear hN hn hm
  have hB0 := bt_lit2 w 73 n n (by omega)
  rw [← h0.out] at hB0
  go_enter Try.func10, Try.ntmps10
  go_wp2
  go_loopw [4, 5, 17] (fun b last i wr => ∃ (k : Nat) (v : Value), k ≤ n ∧ i = .int .i64 k ∧ b = v ∧ last = .int .i64 (lastS S k) ∧ (∀ j, j < k → slOk S j = true) ∧ Bt w wr v (idxH S k)) (fun _ _ i _ => n - (intOf i).toNat)
  case atStart => exact ⟨0, _, by omega, rfl, rfl, rfl, fun j hj => absurd hj (by omega), hB0⟩
  case round =>
    clear hB0
    obtain ⟨k, v, hk, rfl, rfl, rfl, hok, hb⟩ := hrel
    by_cases hlt : k < n
    · have hki : (k : Int) < n := by omega
      obtain ⟨b, off, rfl, hcs⟩ := hS.resolve_left (fun e => by have := hNN.out; rw [e] at this; simp at this; omega)
      have hb0 := hcs k (by rw [hNN.out]; exact hlt)
      have hsl := slOk_last hok
      have hup := idxH_up S k (by rw [hNN.out]; exact hlt)
      have hls : (S.getD k ⟨0, 0⟩).key = lastS S (k + 1) := rfl
      obtain ⟨K, hK0⟩ : ∃ K, (S.getD k ⟨0, 0⟩).key = K := ⟨_, rfl⟩
      obtain ⟨Q, hQ0⟩ : ∃ Q, (S.getD k ⟨0, 0⟩).page = Q := ⟨_, rfl⟩
      obtain ⟨c0, c1⟩ := hb0
      have c0 := below_cell hb.bel c0
      have c1 := below_cell hb.bel c1
      rw [hK0] at c0 hsl hup hls
      rw [hQ0] at c1 hsl hup
      clear hcs
      have hF : Hid (∀ W, Calls Try.prog 29 #[.int .i64 K, .int .i64 (lastS S k)] W fun e w' => e = .returned (.bool (decide (lastS S k < K) && decide (K ≤ 2147483647))) ∧ w' = W) := fun W => follows_any K _ W
      have hP : Hid (∀ W, Calls Try.prog 30 #[.int .i64 Q] W fun e w' => e = .returned (.bool (pageB Q)) ∧ w' = W) := fun W => isPage_any Q W
      cases hf : (decide (lastS S k < K) && decide (K ≤ 2147483647)) with
      | false =>
        rw [hf] at hF hsl
        have HE : Hid _ := hNone.out k hlt (by rw [hsl]; rfl)
        clear hf hsl hup hls hS hok hAll hNone
        go_wp2_with (first
          | (go_at_call 29; go_fit (hF.out _); rintro e w1 ⟨rfl, rfl⟩)
          | fail)
        go_ret2
        exact ⟨HE.out, (hb.grew ((Grew.refl _).alloc _ _)).bel⟩
      | true =>
        rw [hf] at hF hsl
        cases hp : pageB Q with
        | false =>
          rw [hp] at hP hsl
          have HE : Hid _ := hNone.out k hlt (by rw [hsl]; rfl)
          clear hf hsl hup hls hS hok hAll hNone hp
          go_wp2_with (first
            | (go_at_call 29; go_fit (hF.out _); rintro e w1 ⟨rfl, rfl⟩)
            | (go_at_call 30; go_fit (hP.out _); rintro e w1 ⟨rfl, rfl⟩)
            | fail)
          go_ret2
          exact ⟨HE.out, (hb.grew ((Grew.refl _).alloc _ _)).bel⟩
        | true =>
          rw [hp] at hP hsl
          have hcur : Hid (∀ j, j < k + 1 → slOk S j = true) := fun j hj => by
            by_cases e : j = k
            · rw [e, hsl]; rfl
            · exact hok j (by omega)
          have hK : lastS S k < K ∧ K ≤ 2147483647 := by simpa using hf
          have hKge : 0 ≤ K := by
            have := hcur.out k (by omega)
            simp only [slOk, Bool.and_eq_true] at this
            have := (keyB_iff _).1 this.1.1
            omega
          have hQ := (pageB_iff _).1 hp
          obtain ⟨Kn, rfl⟩ := Int.eq_ofNat_of_zero_le hKge
          obtain ⟨Qn, rfl⟩ := Int.eq_ofNat_of_zero_le (show 0 ≤ Q by omega)
          have hl := hLen.out k hk
          have hz : ∀ i, u4.ownBlock = some i → i < wr.heap.size := fun i e => (hb.row.lt i e).2
          replace hls : Hid (((Kn : Nat) : Int) = lastS S (k + 1)) := hls
          replace hup : Hid (idxH S (k + 1) = idxH S k ++ digs Kn 4 ++ digs Qn 2) := by
            rw [Int.toNat_natCast, Int.toNat_natCast] at hup
            exact hup
          have hbA : Bt w (wr.alloc (.cells #[.int .i64 Kn, .int .i64 Qn] 59)) u4 (idxH S k) := hb.grew ((Grew.refl _).alloc _ _)
          have z0 : (wr.alloc (.cells #[.int .i64 Kn, .int .i64 Qn] 59)).cell? ⟨wr.heap.size, 0, none⟩ = some (.int .i64 Kn) := by
            rw [cell_of_row _ _ _ _ _ _ (heap_alloc_new _ _)]; rfl
          have z1 : (wr.alloc (.cells #[.int .i64 Kn, .int .i64 Qn] 59)).cell? ⟨wr.heap.size, 1, none⟩ = some (.int .i64 Qn) := by
            rw [cell_of_row _ _ _ _ _ _ (heap_alloc_new _ _)]; rfl
          have nz : u4.ownBlock ≠ some wr.heap.size := fun e => absurd (hz _ e) (Nat.lt_irrefl _)
          clear hf hsl hS hok hAll hNone hp hz
          go_wp2_with (first
            | (go_at_call 29; go_fit (hF.out _); rintro e w1 ⟨rfl, rfl⟩)
            | (go_at_call 30; go_fit (hP.out _); rintro e w1 ⟨rfl, rfl⟩)
            | (go_at_call 31; go_fit (abig_any w _ _ _ Kn 4 (by omega) (by omega) (by omega) hbA); rintro e w1 ⟨v1, rfl, hb1, ho1⟩; obtain ⟨y0, n1⟩ := ho1.cell z0 nz; obtain ⟨y1, _⟩ := ho1.cell z1 nz)
            | (go_at_call 31; go_fit (abig_any w _ _ _ Qn 2 (by omega) (by omega) (by rw [List.length_append, digs_len]; omega) hb1); rintro e w2 ⟨v2, rfl, hb2, ho2⟩; obtain ⟨x0, n2⟩ := ho2.cell y0 n1)
            | fail)
          refine ⟨⟨k + 1, v2, hlt, by simp, rfl, congrArg (Value.int .i64) hls.out, hcur.out, ?_⟩, meas_up hlt⟩
          rw [hup.out]
          exact hb2
    · have hki : ¬ (k : Int) < n := by omega
      obtain rfl : k = n := by omega
      obtain ⟨v1, v2⟩ := hAll.out hok
      replace v1 : Hid (idxV S = txt (padL (idxH S k))) := v1
      replace v2 : Hid (idxOk S = true) := v2
      have hl := hLen.out k (by omega)
      clear hok hAll
      go_wp2_with (first | (go_at_call 32; go_fit (filled_any w _ _ _ hb (by intro e; rw [e] at hl; simp at hl; omega) (by omega)); rintro e w1 ⟨rfl, B⟩) | fail)
      go_ret2
      exact ⟨by rw [v1.out, v2.out]; rfl, hb.bel.trans (B.mono hb.bel.size)⟩
end Go.Proofs.Ytjcocmoidboamaa
