/-
  PruneTurned's walk: boxes told in another order.
-/
import Derived.Test.YtflffgjldoipfaaPMore
import Derived.Test.YtflffgjldoipfaaPMap
import Derived.Carry
namespace Go.Proofs.Ytflffgjldoipfaa
open Go.RowKit

theorem rot_eq {n i t : Nat} (hi : i < n) (ht : t < n) : (i + t) % n = if i + t < n then i + t else i + t - n := by
  split
  · rename_i h; exact Nat.mod_eq_of_lt h
  · rename_i h
    rw [Nat.mod_eq_sub_mod (by omega), Nat.mod_eq_of_lt (by omega)]
/-- Boxes told from another place on. -/
def rotL (L : List Bx) (t k : Nat) : List Bx := (List.range k).map fun i => bx L ((i + t) % L.length)
theorem rotL_len (L : List Bx) (t k : Nat) : (rotL L t k).length = k := by simp [rotL]
theorem rotL_bx (L : List Bx) (t : Nat) {k i : Nat} (h : i < k) : bx (rotL L t k) i = bx L ((i + t) % L.length) := by
  have e : (rotL L t k)[i]? = some (bx L ((i + t) % L.length)) := by simp [rotL, h]
  rw [bx, List.getD, e]
  rfl
theorem rotL_succ (L : List Bx) (t k : Nat) : (rotL L t (k + 1)).flatMap Bx.row = (rotL L t k).flatMap Bx.row ++ (bx L ((k + t) % L.length)).row := by
  unfold rotL
  rw [List.range_succ, List.map_append, List.flatMap_append]
  simp
theorem bx_ok {L : List Bx} (h : ∀ x ∈ L, x.ok) {i : Nat} (hi : i < L.length) : (bx L i).ok := by
  have e : bx L i = L[i] := by simp [bx, List.getD, hi]
  rw [e]
  exact h _ (List.getElem_mem hi)
theorem rotL_ok {L : List Bx} (h : ∀ x ∈ L, x.ok) (hn : 0 < L.length) (t k : Nat) : ∀ x ∈ rotL L t k, x.ok := by
  intro x hx
  obtain ⟨i, _, rfl⟩ := List.mem_map.1 hx
  exact bx_ok h (Nat.mod_lt _ hn)
theorem rot_mt {L : List Bx} {t i j : Nat} (hi : i < L.length) (hj : j < L.length) : mt (rotL L t L.length) i j = mt L ((i + t) % L.length) ((j + t) % L.length) := by
  unfold mt
  rw [rotL_bx L t hi, rotL_bx L t hj]
theorem rot_ne {n i j t : Nat} (hi : i < n) (hj : j < n) (ht : t < n) (h : i ≠ j) : (i + t) % n ≠ (j + t) % n := by
  rw [rot_eq hi ht, rot_eq hj ht]
  split <;> split <;> omega
theorem rot_in {L : List Bx} {t : Nat} (ht : t < L.length) {p : Nat × Nat} (h : p ∈ prs (rotL L t L.length)) : (min ((p.1 + t) % L.length) ((p.2 + t) % L.length), max ((p.1 + t) % L.length) ((p.2 + t) % L.length)) ∈ prs L := by
  obtain ⟨h1, h2, h3⟩ := (prs_mem _ _).1 h
  rw [rotL_len] at h2
  have hn : 0 < L.length := by omega
  have hx := Nat.mod_lt (p.1 + t) hn
  have hy := Nat.mod_lt (p.2 + t) hn
  have hne := rot_ne (i := p.1) (j := p.2) (by omega) h2 ht (by omega)
  rw [rot_mt (by omega) h2] at h3
  rw [prs_mem]
  generalize (p.1 + t) % L.length = x at *
  generalize (p.2 + t) % L.length = y at *
  simp only
  refine ⟨by omega, by omega, ?_⟩
  rcases Nat.lt_or_ge x y with g | g
  · rw [show min x y = x by omega, show max x y = y by omega]; exact h3
  · rw [show min x y = y by omega, show max x y = x by omega, mt_comm]; exact h3
theorem sweep_map (m : Nat → Nat → Bool) (s : Nat → Nat) : ∀ l : List Nat, (sweep m (l.map s)).length = (sweep (fun a b => m (s a) (s b)) l).length
  | [] => rfl
  | a :: r => by
    rw [List.map_cons, sweep, sweep, List.length_append, List.length_append, List.length_map, List.length_map, sweep_map m s r, List.filter_map, List.length_map]
    rfl
theorem sweep_congr {m m' : Nat → Nat → Bool} : ∀ {l : List Nat}, (∀ a ∈ l, ∀ b ∈ l, m a b = m' a b) → sweep m l = sweep m' l
  | [], _ => rfl
  | a :: r, h => by
    rw [sweep, sweep, sweep_congr (l := r) (fun x hx y hy => h x (by simp [hx]) y (by simp [hy]))]
    congr 2
    exact List.filter_congr (fun b hb => h a (by simp) b (by simp [hb]))
theorem rot_perm {n t : Nat} (ht : t < n) : ((List.range n).map fun i => (i + t) % n).Perm (List.range n) := by
  refine (List.perm_ext_iff_of_nodup ?_ List.nodup_range).2 ?_
  · show List.Pairwise _ _
    rw [List.pairwise_map]
    refine List.pairwise_lt_range.imp_of_mem ?_
    intro a b ha hb hab
    exact rot_ne (List.mem_range.1 ha) (List.mem_range.1 hb) ht (by omega)
  · intro j
    simp only [List.mem_map, List.mem_range]
    constructor
    · rintro ⟨i, hi, rfl⟩
      exact Nat.mod_lt _ (by omega)
    · intro hj
      by_cases g : t ≤ j
      · exact ⟨j - t, by omega, by rw [show j - t + t = j by omega]; exact Nat.mod_eq_of_lt hj⟩
      · exact ⟨j + n - t, by omega, by rw [show j + n - t + t = j + n by omega, Nat.add_mod_right]; exact Nat.mod_eq_of_lt hj⟩
theorem rot_len {L : List Bx} {t : Nat} (ht : t < L.length) : (prs (rotL L t L.length)).length = (prs L).length := by
  unfold prs
  rw [rotL_len, sweep_congr (m' := fun a b => mt L ((a + t) % L.length) ((b + t) % L.length)) (fun a ha b hb => rot_mt (List.mem_range.1 ha) (List.mem_range.1 hb))]
  rw [← sweep_map (mt L) (fun i => (i + t) % L.length)]
  exact (sweep_perm (mt_comm L) (rot_perm ht)).length_eq
theorem ltP_nodup {l : List (Nat × Nat)} (h : l.Pairwise ltP) : l.Nodup := h.imp (fun {a b} hab e => by subst e; unfold ltP at hab; omega)
theorem prs_nodup (L : List Bx) : (prs L).Nodup := ltP_nodup (prs_sorted L)
theorem take_new {α : Type} {l : List α} (h : l.Nodup) {k : Nat} {p : α} (hp : l[k]? = some p) : p ∉ l.take k := by
  intro hm
  obtain ⟨i, hi, e⟩ := List.getElem_of_mem hm
  obtain ⟨hk, e2⟩ := List.getElem?_eq_some_iff.1 hp
  rw [List.length_take] at hi
  rw [List.getElem_take] at e
  have := (List.pairwise_iff_getElem.1 (show List.Pairwise (· ≠ ·) l from h)) i k (by omega) hk (by omega)
  exact this (e.trans e2.symm)
theorem take_put1 {α : Type} {l : List α} {k : Nat} {p : α} (hp : l[k]? = some p) : l.take k ++ [p] = l.take (k + 1) := by
  obtain ⟨hk, rfl⟩ := List.getElem?_eq_some_iff.1 hp
  rw [List.take_succ_eq_append_getElem hk]

/-- Where a turn leads. -/
theorem turn_nums (a : Int) {n : Nat} (hn : 0 < n) : ∃ (r : Int) (T : Nat), a.tmod (n : Int) = r ∧ -(n : Int) < r ∧ r < (n : Int) ∧ (r + (n : Int)).tmod (n : Int) = (T : Int) ∧ (r + (n : Int)) % (n : Int) = (T : Int) ∧ T < n := by
  have h1 := Int.tmod_lt_of_pos a (b := (n : Int)) (by omega)
  have h2 : -(n : Int) < a.tmod (n : Int) := by
    rcases Int.le_total 0 a with h | h
    · have := Int.tmod_nonneg (n : Int) h; omega
    · have h3 := Int.neg_tmod (-a) (n : Int)
      rw [Int.neg_neg] at h3
      have h4 := Int.tmod_lt_of_pos (-a) (b := (n : Int)) (by omega)
      omega
  have h5 := Int.emod_nonneg (a.tmod (n : Int) + (n : Int)) (b := (n : Int)) (by omega)
  have h6 := Int.emod_lt_of_pos (a.tmod (n : Int) + (n : Int)) (b := (n : Int)) (by omega)
  refine ⟨_, ((a.tmod (n : Int) + (n : Int)) % (n : Int)).toNat, rfl, h2, h1, ?_, ?_, ?_⟩
  · rw [Int.tmod_eq_emod_of_nonneg (by omega)]; omega
  · omega
  · omega
theorem rem_nums (k T : Nat) {n : Nat} : ((k : Int) + (T : Int)).tmod (n : Int) = (((k + T) % n : Nat) : Int) ∧ ((k : Int) + (T : Int)) % (n : Int) = (((k + T) % n : Nat) : Int) := by
  have e : ((k : Int) + (T : Int)) % (n : Int) = (((k + T) % n : Nat) : Int) := by
    rw [Int.natCast_emod]; rfl
  exact ⟨by rw [Int.tmod_eq_emod_of_nonneg (by omega)]; exact e, e⟩

set_option maxRecDepth 10000 in
set_option maxHeartbeats 4000000 in
theorem turned_any (a : Option Addr) (cap : Nat) (L : List Bx) (tu : Int) (h0 : 0 < L.length) (hn : L.length ≤ 25) (w : World) (hL : Boxes w a L) :
    Calls Try.prog 5 #[.slice a L.length cap, .int .i64 tu] w fun e w' => e = .returned (.bool true) ∧ Below w.heap.size w w' := by
  obtain ⟨i0, hi0, hz0, hz1, hz2⟩ := info_parts info_box
  obtain ⟨r, T, hr, hr1, hr2, hT1, hT2, hT⟩ := turn_nums tu h0
  have g1 : ¬ (25 : Int) < (L.length : Int) := by omega
  have g3 : ¬ (L.length : Int) = 0 := by omega
  have g2 : ((L.length : Int) == 0) = false := by simpa using g3
  obtain ⟨b, off, rfl, hb, hcell⟩ := hL.block h0
  go_enter Try.func5, Try.ntmps5
  go_wp2_with (first
    | (go_at_call 8; go_fit (alive_any _); rintro e V ⟨rfl, hV⟩))
  go_loopw [7, 46] (fun f i wr => ∃ k : Nat, k ≤ L.length ∧ i = .int .i64 k ∧ wr.ownsRow w.heap.size 28 4 f k ((rotL L T k).flatMap Bx.row) ∧ Below w.heap.size w wr) (fun _ i _ => L.length - (intOf i).toNat)
  case atStart => exact ⟨0, by omega, rfl, World.ownsRow_nil _ _ _ _, hV⟩
  case round =>
    obtain ⟨k, hk, rfl, hF, hB⟩ := hrel
    by_cases hlt : k < L.length
    · have hi : (k : Int) < (L.length : Int) := by omega
      obtain ⟨hm1, hm2⟩ := rem_nums k T (n := L.length)
      have hq := Nat.mod_lt (k + T) h0
      obtain ⟨p0, p1, p2, p3⟩ := hcell _ hq
      have HR := rotL_succ L T k
      generalize (k + T) % L.length = q at *
      have q0 := (hB.cell (p := ⟨b, _, none⟩) hb).trans p0
      have q1 := (hB.cell (p := ⟨b, _, none⟩) hb).trans p1
      have q2 := (hB.cell (p := ⟨b, _, none⟩) hb).trans p2
      have q3 := (hB.cell (p := ⟨b, _, none⟩) hb).trans p3
      have hqi : (q : Int) < (L.length : Int) := by omega
      have HR : Hid ((rotL L T (k + 1)).flatMap Bx.row = (rotL L T k).flatMap Bx.row ++ (bx L q).row) := HR
      have hsz := hB.size
      clear p0 p1 p2 p3 hr hT1 hT2 hr1 hr2 hcell
      go_wp2_with (first
        | (at_builtin; refine wpList_append_own _ rfl (.tmp 49) (.tmp 58) 22 rfl w.heap.size 28 i0 (.agg #[.int .i64 0, .int .i64 0, .int .i64 0, .int .i64 0]) 4 32 Try.underlying22 hi0 hz0 hz1 hz2 rfl (by decide) u7 _ _ rfl (hF.alloc _) ⟨wr.heap.size, 0, none⟩ 1 1 (bx L q).row rfl rfl (news_new _ _) (row_one _) (by unfold maxLen; omega) (by omega) (by simp; omega) ?_; intro f1 w1 hf1 hg1 _))
      refine ⟨⟨k + 1, by omega, rfl, by rw [HR.out]; exact hf1, (hB.alloc hsz _).grown hg1 (by simp; omega) (fun k hk => (hF.lt k hk).1)⟩, ?_⟩
      simp [intOf]; omega
    · have hi : ¬ (k : Int) < (L.length : Int) := by omega
      obtain rfl : k = L.length := by omega
      obtain ⟨a1, cap1, rfl, hM⟩ := own_boxes hF (rotL_len L T L.length) (rotL_ok hL.ok h0 T L.length)
      have hP1 := fun W h => pairs_any L (some ⟨b, off, none⟩) cap W h (by omega)
      have hP2 := fun W h => pairs_any (rotL L T L.length) a1 cap1 W h (by rw [rotL_len]; omega)
      rw [rotL_len] at hP2
      have hLr := hL.below hB
      have hrl := rot_len hT
      have hin := fun p => rot_in hT (p := p)
      have hnd := prs_nodup L
      have hls := prs_small L (by omega)
      clear hcell hV
      go_upto_region 14 with (first
        | (go_at_call 9; go_fit (hP1 _ hLr); rintro e W ⟨⟨v1, rfl, hv1⟩, hW1⟩; have hM := hM.below hW1)
        | (go_at_call 9; go_fit (hP2 _ hM); rintro e Q ⟨⟨v2, rfl, hv2⟩, hQ⟩))
      obtain ⟨a2, cap2, rfl, hA2⟩ := own_pairs hv1 rfl
      obtain ⟨a3, cap3, rfl, hA3⟩ := own_pairs hv2 rfl
      have hA2 := hA2.below hQ
      have G := on_trans (on_trans hB hW1) hQ
      rw [hrl]
      clear hv1 hv2 hM hF hP1 hP2 hLr hW1 hQ hB hL hr hr1 hr2 hT1 hT2
      have HI : Hid (∀ p, p ∈ prs (rotL L T L.length) → (min ((p.1 + T) % L.length) ((p.2 + T) % L.length), max ((p.1 + T) % L.length) ((p.2 + T) % L.length)) ∈ prs L) := hin
      have HD : Hid (prs L).Nodup := hnd
      have HB : Hid (∀ p, p ∈ prs (rotL L T L.length) → p.1 < 30 ∧ p.2 < 30) := fun p hp => by
        obtain ⟨q1, q2, _⟩ := (prs_mem _ _).1 hp
        rw [rotL_len] at q2
        omega
      have HL : Hid ((prs (rotL L T L.length)).length = (prs L).length) := hrl
      clear hin hnd hrl
      generalize prs L = A at *
      generalize prs (rotL L T L.length) = C at *
      have mm := fun t w => run_makeMap (P := Try.prog) t w
      have hls3 : C.length ≤ 250000 := by have := HL.out; omega
      go_wp2_with (fail)
      have hm0 : MapHas (Q.alloc (.map #[] 0)) Q.heap.size pv [] := ⟨#[], 0, heap_alloc_new Q _, rfl⟩
      have hb0 : Below Q.heap.size Q (Q.alloc (.map #[] 0)) := below1 Q _
      clear mm
      go_loopw [68] (fun i wr => ∃ k : Nat, k ≤ A.length ∧ i = .int .i64 k ∧ MapHas wr Q.heap.size pv (A.take k) ∧ Below Q.heap.size Q wr) (fun i _ => A.length - (intOf i).toNat)
      case atStart => exact ⟨0, by omega, rfl, hm0, hb0⟩
      case round =>
        clear hm0 hb0
        obtain ⟨k, hk, rfl, hM, hB⟩ := hrel
        by_cases hlt : k < A.length
        · have hi2 : (k : Int) < (A.length : Int) := by omega
          obtain ⟨⟨x, y⟩, hp⟩ : ∃ p, A[k]? = some p := ⟨_, List.getElem?_eq_getElem hlt⟩
          obtain ⟨b2, o2, rfl, hc2⟩ := (hA2.below hB).resolve_left (fun e => by have := congrArg List.length e; simp at this; rw [this] at hlt; simp at hlt)
          obtain ⟨d0, d1⟩ := hc2 k (by simpa using hlt)
          have c0 : wr.cell? ⟨b2, o2 + k * 2, none⟩ = some (.int .i64 x) := by rw [d0]; simp [List.getD, hp, toI]
          have c1 : wr.cell? ⟨b2, o2 + k * 2 + 1, none⟩ = some (.int .i64 y) := by rw [d1]; simp [List.getD, hp, toI]
          have hsz := hB.size
          have hMn := hM.lt
          have hM2 : MapHas (wr.alloc (.cells #[.int .i64 (x : Int), .int .i64 (y : Int)] 50)) Q.heap.size pv (A.take k) := hM.heap (Below.heap_alloc _ _ _ hMn)
          obtain ⟨w', hput, hM3, hG3⟩ := put_pair hM2 (take_new HD.out hp)
          rw [take_put1 hp] at hM3
          have hput : (Instr.mapUpdate 52 (.map (some Q.heap.size)) (.agg #[.int .i64 (x : Int), .int .i64 (y : Int)]) (.bool true)).run Try.prog (wr.alloc (.cells #[.int .i64 (x : Int), .int .i64 (y : Int)] 50)) = .ok () w' := hput
          have hB3 : Below Q.heap.size Q w' := (hB.alloc hsz _).grown hG3 (by simp; omega) (fun k h => by cases h; omega)
          clear hc2 d0 d1 hp hM hM2 hG3 hMn
          go_wp2_with (fail)
          refine ⟨⟨k + 1, by omega, rfl, hM3, hB3⟩, ?_⟩
          simp [intOf]; omega
        · have hi2 : ¬ (k : Int) < (A.length : Int) := by omega
          obtain rfl : k = A.length := by omega
          rw [List.take_of_length_le (Nat.le_refl _)] at hM
          go_wp2_with (fail)
          go_loopw [77] (fun i wr => ∃ k : Nat, k ≤ A.length ∧ i = .int .i64 k ∧ MapHas wr Q.heap.size pv A ∧ Below Q.heap.size Q wr) (fun i _ => A.length - (intOf i).toNat)
          case atStart => exact ⟨0, by omega, rfl, hM, hB⟩
          case round =>
            clear hM hB
            obtain ⟨k, hk, rfl, hM, hB⟩ := hrel
            by_cases hlt : k < A.length
            · have hi2 : (k : Int) < (A.length : Int) := by omega
              have hlt3 : k < C.length := by have := HL.out; omega
              obtain ⟨⟨x, y⟩, hp⟩ : ∃ p, C[k]? = some p := ⟨_, List.getElem?_eq_getElem hlt3⟩
              have hmem := HI.out (x, y) (List.mem_of_getElem? hp)
              obtain ⟨b2, o2, rfl, hc2⟩ := (hA3.below hB).resolve_left (fun e => by have := congrArg List.length e; simp at this; rw [this] at hlt3; simp at hlt3)
              obtain ⟨d0, d1⟩ := hc2 k (by simpa using hlt3)
              have c0 : wr.cell? ⟨b2, o2 + k * 2, none⟩ = some (.int .i64 x) := by rw [d0]; simp [List.getD, hp, toI]
              have c1 : wr.cell? ⟨b2, o2 + k * 2 + 1, none⟩ = some (.int .i64 y) := by rw [d1]; simp [List.getD, hp, toI]
              obtain ⟨hx30, hy30⟩ := HB.out (x, y) (List.mem_of_getElem? hp)
              simp only at hx30 hy30 hmem
              obtain ⟨m1, m2⟩ := rem_nums x T (n := L.length)
              obtain ⟨m3, m4⟩ := rem_nums y T (n := L.length)
              generalize (x + T) % L.length = X at *
              generalize (y + T) % L.length = Y at *
              obtain ⟨mn, hmn⟩ : ∃ mn, min X Y = mn := ⟨_, rfl⟩
              obtain ⟨mx, hmx⟩ : ∃ mx, max X Y = mx := ⟨_, rfl⟩
              have e1 : min (X : Int) (Y : Int) = (mn : Int) := by omega
              have e2 : max (X : Int) (Y : Int) = (mx : Int) := by omega
              rw [hmn, hmx] at hmem
              have hsz := hB.size
              have hMn := hM.lt
              have f0 : (wr.alloc (.cells #[.int .i64 (x : Int), .int .i64 (y : Int)] 50)).cell? ⟨wr.heap.size, 0, none⟩ = some (.int .i64 x) := by simp [go_sem]
              have f1 : (wr.alloc (.cells #[.int .i64 (x : Int), .int .i64 (y : Int)] 50)).cell? ⟨wr.heap.size, 1, none⟩ = some (.int .i64 y) := by simp [go_sem]
              have hM2 : MapHas (wr.alloc (.cells #[.int .i64 (x : Int), .int .i64 (y : Int)] 50)) Q.heap.size pv A := hM.heap (Below.heap_alloc _ _ _ hMn)
              have hB2 : Below Q.heap.size Q (wr.alloc (.cells #[.int .i64 (x : Int), .int .i64 (y : Int)] 50)) := hB.alloc hsz _
              clear hc2 d0 d1 hp hmn hmx hM hB hMn hsz
              go_upto_region 23 with (fail)
              generalize wr.alloc (.cells #[.int .i64 (x : Int), .int .i64 (y : Int)] 50) = N at *
              have hget : ∀ n, (Instr.lookup 52 (.map (some Q.heap.size)) (.agg #[.int .i64 (mn : Int), .int .i64 (mx : Int)]) false).run Try.prog (N.drewN n) = .ok (.bool true) (N.drewN n) := fun n => get_pair (w := N.drewN n) (hM2.heap rfl) hmem
              go_quiet (fail)
              go_wp2_with (fail)
              refine ⟨⟨k + 1, by omega, rfl, hM2.heap rfl, below_drewN hB2 _⟩, ?_⟩
              simp [intOf]; omega
            · have hi2 : ¬ (k : Int) < (A.length : Int) := by omega
              go_wp2_with (fail)
              go_ret
              exact ⟨rfl, on_trans G hB⟩

theorem no_boxes (w : World) : Boxes w none [] := ⟨fun x hx => absurd hx (by simp), .inl rfl⟩
set_option maxRecDepth 10000 in
theorem turned_none (a : Option Addr) (cap : Nat) (tu : Int) (w : World) :
    Calls Try.prog 5 #[.slice a 0 cap, .int .i64 tu] w fun e w' => e = .returned (.bool true) ∧ Below w.heap.size w w' := by
  have hP : Hid (∀ W, Calls Try.prog 9 #[.slice none 0 0] W fun e w' => (∃ a c, e = .returned (.slice a 0 c)) ∧ Below W.heap.size W w') := fun W => (pairs_any [] none 0 W (no_boxes W) (by decide)).mono (by
    rintro e w' ⟨⟨v, rfl, hv⟩, hB⟩
    obtain ⟨a, c, rfl, _⟩ := own_pairs hv rfl
    exact ⟨⟨a, c, rfl⟩, hB⟩)
  have hS : Hid (∀ W, Calls Try.prog 10 #[.slice none 0 0] W fun e w' => (∃ a c, e = .returned (.slice a 0 c)) ∧ Below W.heap.size W w') := fun W => (sorted_any [] none 0 W (no_boxes W) (by decide)).mono (by
    rintro e w' ⟨⟨g, S, rfl, _⟩, hB⟩
    exact ⟨⟨_, _, rfl⟩, hB⟩)
  have G := Below.refl w.heap.size w
  go_enter Try.func5, Try.ntmps5
  go_wp2_with (first
    | (go_at_call 8; go_fit (alive_any _); rintro e V ⟨rfl, hV⟩; have G := on_trans G hV)
    | (go_at_call 9; go_fit (hP.out _); rintro e V ⟨⟨a1, c1, rfl⟩, hV⟩; have G := on_trans G hV)
    | (go_at_call 10; go_fit (hS.out _); rintro e V ⟨⟨a2, c2, rfl⟩, hV⟩; have G := on_trans G hV))
  go_ret
  exact ⟨rfl, G⟩

set_option maxRecDepth 10000 in
theorem turned_out (a : Option Addr) (cap n : Nat) (tu : Int) (hn : 25 < n) (w : World) :
    Calls Try.prog 5 #[.slice a n cap, .int .i64 tu] w fun e w' => e = .returned (.bool true) ∧ Below w.heap.size w w' := by
  have hA : Hid (∀ W, Calls Try.prog 8 #[] W fun e w' => e = .returned (.bool true) ∧ Below W.heap.size W w') := fun W => alive_any W
  have g1 : (25 : Int) < (n : Int) := by omega
  go_enter Try.func5, Try.ntmps5
  go_wp2_with (first
    | (go_at_call 8; go_fit (hA.out _); rintro e V ⟨rfl, hV⟩))
  go_ret
  exact ⟨rfl, hV⟩
end Go.Proofs.Ytflffgjldoipfaa
