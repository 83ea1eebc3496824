/-
  The first statement of stage 9: what Pairs and Sorted tell, of boxes that lie ahead of a place that is not theirs; nothing that they tell shares memory.
-/
import Derived.Test.YtflffgjldoipfaaUTold
import Derived.Test.YtflffgjldoipfaaRPairs
import Derived.Test.YtflffgjldoipfaaPMap
import Derived.Test.YtflffgjldoipfaaPTurn
namespace Go.Proofs.Ytflffgjldoipfaa
open Go.RowKit

theorem Told.pa {base B n ca : Nat} {aa : Option Addr} {vb vs : Value} {A : List (Int × Int)} {S : List Int} {w : World} (h : Told base B (.slice aa n ca) vb vs A S w) : PairsAt w aa A := by
  obtain ⟨a, c, e, r⟩ := own_reads h.a
  cases e
  exact readsJ r
theorem Told.pb {base B n ca : Nat} {aa : Option Addr} {va vs : Value} {A : List (Int × Int)} {S : List Int} {w : World} (h : Told base B va (.slice aa n ca) vs A S w) : PairsAt w aa A := by
  obtain ⟨a, c, e, r⟩ := own_reads h.b
  cases e
  exact readsJ r
theorem same_same (a b : Option Addr) (c d : Nat) (A : List (Int × Int)) (w : World) (hl : PairsAt w a A) (hm : PairsAt w b A) (h1 : A.length ≤ 1000000) :
    Calls Try.prog 13 #[.slice a A.length c, .slice b A.length d] w fun e w' => e = .returned (.bool true) ∧ Below w.heap.size w w' := by
  refine (samepairs_any a b c d A A w hl hm h1).mono ?_
  rintro e w' ⟨rfl, n, rfl⟩
  exact ⟨by rw [decide_eq_true rfl], below_drewN (Below.refl _ _) n⟩
def b77 : Bx := ⟨-77, 0, 0, 0⟩
theorem sorted_step {L : List Bx} {S : List Nat} (h : IsSorted L S) {k x y : Nat} (hk : 0 < k) (hy : S[k - 1]? = some y) (hx : S[k]? = some x) : (bx L y).l < (bx L x).l ∨ (bx L y).l = (bx L x).l ∧ y < x := by
  obtain ⟨h1, rfl⟩ := List.getElem?_eq_some_iff.1 hy
  obtain ⟨h2, rfl⟩ := List.getElem?_eq_some_iff.1 hx
  exact List.pairwise_iff_getElem.1 h.sorted _ _ h1 h2 (by omega)

set_option maxRecDepth 100000 in
set_option maxHeartbeats 8000000 in
theorem tells_any (a : Option Addr) (cap : Nat) (L : List Bx) (hn : L.length ≤ 50) (w : World) (hL : Boxes w a L) :
    Calls Try.prog 3 #[.slice a L.length cap] w fun e w' => e = .returned (.bool true) ∧ Below w.heap.size w w' := by
  obtain ⟨i0, hi0, hz0, hz1, hz2⟩ := info_parts info_box
  have g1 : ¬ (50 : Int) < (L.length : Int) := by omega
  have hok := hL.ok
  go_enter Try.func3, Try.ntmps3
  go_upto_region 3 with (first
    | (go_at_call 8; go_fit (alive_any _); rintro e V ⟨rfl, hV0⟩))
  have hLV := hL.below hV0
  go_upto_region 4 with (first
    | (at_builtin; refine wpList_app _ rfl (.const (.slice none 0 0)) (.tmp 20) 22 rfl V.heap.size 28 i0 (.agg #[.int .i64 0, .int .i64 0, .int .i64 0, .int .i64 0]) 4 32 Try.underlying22 hi0 hz0 hz1 hz2 rfl (by decide) (.slice none 0 0) 0 [] rfl (World.ownsRow_nil _ _ _ _) a L.length cap (L.flatMap Bx.row) rfl (rows_len L) (boxes_reads hLV) (rows_one L) (by unfold maxLen; omega) (by omega) (Nat.le_refl _) ?_; intro v1 w1 hv1 hg1 _ _; rw [Nat.zero_add, List.nil_append] at hv1)
    | (at_builtin; refine wpList_app _ rfl (.tmp 21) (.tmp 24) 22 rfl V.heap.size 28 i0 (.agg #[.int .i64 0, .int .i64 0, .int .i64 0, .int .i64 0]) 4 32 Try.underlying22 hi0 hz0 hz1 hz2 rfl (by decide) v1 L.length (L.flatMap Bx.row) rfl (hv1.alloc _) (some ⟨w1.heap.size, 0, none⟩) 1 1 b77.row rfl rfl (.inr ⟨_, _, rfl, fun j u hj => by match j, hj with | 0, hj | 1, hj | 2, hj | 3, hj => (simp [b77, Bx.row] at hj; subst hj; simp [go_sem])⟩) (row_one b77) (by unfold maxLen; omega) (by omega) (by have := hg1.size; simp; omega) ?_; intro v2 w2 hv2 hg2 _ _; obtain ⟨g, cap2, rfl, hcap, hgl, hM, h77⟩ := copied hv2 hok; have hsl := take_run g L.length cap2 hcap))
  have hg0 : Below V.heap.size V w1 := (Below.refl _ V).grown hg1 (Nat.le_refl _) (fun k h => by simp [Value.ownBlock] at h)
  have G2 : Below V.heap.size V w2 := (hg0.alloc hg0.size _).grown hg2 (by have := hg0.size; simp; omega) (fun k h => (hv1.lt k h).1)
  have G : Below w.heap.size w w2 := on_trans hV0 G2
  have hL2 := hLV.below G2
  clear hsl hg1 hg2 hv1 hv2 hg0 G2 hV0 hLV hL hi0 hz0 hz1 hz2 hok
  go_upto_region 6 with (first
    | (go_at_call 9; go_fit (pairs_any L (some ⟨g, 0, none⟩) cap2 _ hM (by omega)); rintro e P1 ⟨⟨va, rfl, hva⟩, hP1⟩; have hM1 := hM.below hP1)
    | (go_at_call 9; go_fit (pairs_any L (some ⟨g, 0, none⟩) cap2 _ hM1 (by omega)); rintro e P2 ⟨⟨vb, rfl, hvb⟩, hP2⟩; have hM2 := hM1.below hP2)
    | (go_at_call 10; go_fit (sorted_any L (some ⟨g, 0, none⟩) cap2 _ hM2 (by omega)); rintro e P3 ⟨⟨gs, S, rfl, hS, hO⟩, hP3⟩))
  have hab := later_apart hva hvb
  have hsA := prs_small L (by omega)
  obtain ⟨A, hA⟩ : ∃ A, A = (prs L).map toI := ⟨_, rfl⟩
  obtain ⟨S', hS'⟩ : ∃ S', S' = S.map nI := ⟨_, rfl⟩
  have hAl : (prs L).length = A.length := by rw [hA]; simp
  have hSl : L.length = S'.length := by rw [hS', List.length_map, hS.length]
  rw [nat_flat, ← hA, hAl] at hva hvb
  rw [int_flat, ← hS'] at hO
  have oa : P3.ownsRow w2.heap.size 50 2 va A.length (A.flatMap encJ) := own_on (own_on hva hP2) hP3
  have ob : P3.ownsRow w2.heap.size 50 2 vb A.length (A.flatMap encJ) := own_base (own_on hvb hP3) hP1.size
  have os : P3.ownsRow w2.heap.size 3 1 (.slice (some ⟨gs, 0, none⟩) L.length L.length) L.length (S'.flatMap encI) := own_base hO (Nat.le_trans hP1.size hP2.size)
  have F3 : Below w2.heap.size w2 P3 := on_trans (on_trans hP1 hP2) hP3
  obtain ⟨aa, ca, rfl, _⟩ := own_reads hva
  obtain ⟨ab, cb, rfl, _⟩ := own_reads hvb
  have HA : Hid (A = (prs L).map toI) := hA
  have HS : Hid (S' = S.map nI) := hS'
  have HSl : Hid (L.length = S'.length) := hSl
  have hAs : A.length ≤ 250000 := by omega
  have hSs : S'.length ≤ 50 := by omega
  clear hva hvb hO hP1 hP2 hP3 hM1 hM2 hA hS' hAl hSl hsA
  go_upto_region 7 with (fail)
  have X : Below P3.heap.size P3 (P3.alloc (.cells #[.slice none 0 0, .slice none 0 0, .slice none 0 0, .slice none 0 0, .slice none 0 0, .slice none 0 0, .slice none 0 0, .slice none 0 0, .slice none 0 0, .slice none 0 0, .slice none 0 0, .slice none 0 0, .slice none 0 0, .slice none 0 0] 42)) := below1 P3 _
  have hbk : (P3.alloc (.cells #[.slice none 0 0, .slice none 0 0, .slice none 0 0, .slice none 0 0, .slice none 0 0, .slice none 0 0, .slice none 0 0, .slice none 0 0, .slice none 0 0, .slice none 0 0, .slice none 0 0, .slice none 0 0, .slice none 0 0, .slice none 0 0] 42)).heap[P3.heap.size]? = some (.cells book0 42 (0, 0)) := heap_alloc_new P3 _
  generalize (P3.alloc (.cells #[.slice none 0 0, .slice none 0 0, .slice none 0 0, .slice none 0 0, .slice none 0 0, .slice none 0 0, .slice none 0 0, .slice none 0 0, .slice none 0 0, .slice none 0 0, .slice none 0 0, .slice none 0 0, .slice none 0 0, .slice none 0 0] 42)) = W at *
  have oa := own_on oa X
  have ob := own_on ob X
  have os := own_on os X
  have hsz : w2.heap.size ≤ W.heap.size := Nat.le_trans F3.size X.size
  have hBb : w2.heap.size ≤ P3.heap.size := F3.size
  have F4 := on_trans F3 X
  generalize P3.heap.size = B at *
  have hKP1 := keepPairs_any B w2.heap.size 0 ca aa book0 (.slice none 0 0) (.slice none 0 0) [] [] A W hbk rfl rfl (World.ownsRow_nil _ _ _ _) (World.ownsRow_nil _ _ _ _) (fun _ h => by simp [Value.ownBlock] at h) (by omega) hsz oa hBb (by omega)
  go_upto_region 8 with (first
    | (go_at_call 11; go_fit hKP1; rintro e W1 ⟨rfl, hv, hq, c1, bk1, ho1, hp1, ap1, hc1, f1⟩))
  clear hKP1
  have hKP2 := keepPairs_any B w2.heap.size 1 cb ab _ hv hq _ _ A W1 bk1 (by simp [book0]) (by simp [book0]) ho1 hp1 ap1 (by omega) (Nat.le_trans hsz f1.below.size) (f1.owns (F := 50) (by decide) (by decide) ob) hBb (by omega)
  go_upto_region 9 with (first
    | (go_at_call 11; go_fit hKP2; rintro e W2 ⟨rfl, hv', hq', c2, bk2, ho2, hp2, ap2, hc2, f2⟩))
  clear hKP2
  rw [HSl.out] at os
  have hKI := keepInts_any B w2.heap.size 0 S'.length (some ⟨gs, 0, none⟩) _ (.slice none 0 0) (.slice none 0 0) [] [] S' W2 bk2 (by simp [book0]) (by simp [book0]) (World.ownsRow_nil _ _ _ _) (World.ownsRow_nil _ _ _ _) (fun _ h => by simp [Value.ownBlock] at h) (by omega) (Nat.le_trans (Nat.le_trans hsz f1.below.size) f2.below.size) (f2.owns (F := 3) (by decide) (by decide) (f1.owns (F := 3) (by decide) (by decide) os)) hBb (by omega)
  have hKI : Calls Try.prog 12 #[.pointer (some ⟨B, 0, none⟩), .slice (some ⟨gs, 0, none⟩) L.length L.length] W2 fun e w' => e = .returned (.tuple #[]) ∧ KeptInts B w2.heap.size 0 ((((book0.setIfInBounds 2 hv).setIfInBounds 3 hq).setIfInBounds 2 hv').setIfInBounds 3 hq') [] [] (some ⟨gs, 0, none⟩) S' S'.length W2 w' := by rw [HSl.out]; exact hKI
  go_upto_region 10 with (first
    | (go_at_call 12; go_fit hKI; rintro e W3 ⟨rfl, gv, gq, c3, bk3, ho3, hp3, ap3, hc3, f3⟩))
  clear hKI
  have T3 := told_of hc1 f1 ho2 hp2 ap2 hc2 f2 bk3 ho3 hp3 ap3 hc3 f3 oa ob os hab (by omega) (by omega) hsz
  have F5 : Below w2.heap.size w2 W3 := F4.trans (f1.below.trans (f2.below.trans f3.below))
  have hL3 := hL2.below F5
  have hM3 := hM.below F5
  have h77' : W3.cell? ⟨g, L.length * 4, none⟩ = some (.int .i64 (-77)) := (F5.cell hgl).trans h77
  have G3 : Below w.heap.size w W3 := on_trans G F5
  have hww : w.heap.size ≤ w2.heap.size := G.size
  rw [← HSl.out] at T3
  clear hc1 f1 ho1 hp1 ap1 bk1 ho2 hp2 ap2 bk2 hc2 f2 bk3 ho3 hp3 ap3 hc3 f3 oa ob os hab F4 F5 hL2 hM h77 G hsz hBb X hbk F3
  have hO : W3.ownsRow w2.heap.size 3 1 (.slice (some ⟨gs, 0, none⟩) L.length L.length) L.length (S.map natV) := by
    have h1 := T3.s
    rw [← HSl.out] at h1
    rw [int_flat, ← HS.out]
    exact h1
  have mm := fun t w => run_makeMap (P := Try.prog) t w
  go_upto_region 12 with (fail)
  clear mm
  have hm0 : MapHas (W3.alloc (.map #[] 0)) W3.heap.size natV [] := ⟨#[], 0, heap_alloc_new W3 _, rfl⟩
  have hb0 : Below W3.heap.size W3 (W3.alloc (.map #[] 0)) := below1 W3 _
  have HD : Hid S.Nodup := hS.perm.nodup_iff.2 List.nodup_range
  go_loopw [49] (fun i wr => ∃ k : Nat, k ≤ L.length ∧ i = .int .i64 k ∧ MapHas wr W3.heap.size natV (S.take k) ∧ Below W3.heap.size W3 wr) (fun i _ => L.length - (intOf i).toNat)
  case atStart => exact ⟨0, by omega, rfl, hm0, hb0⟩
  case round =>
    clear hm0 hb0
    obtain ⟨k, hk, rfl, hMp, hB⟩ := hrel
    by_cases hlt : k < L.length
    · have hi : (k : Int) < (L.length : Int) := by omega
      obtain ⟨x, hx⟩ : ∃ x, S[k]? = some x := ⟨_, List.getElem?_eq_getElem (by rw [hS.length]; omega)⟩
      have hcx : wr.cell? ⟨gs, k, none⟩ = some (.int .i64 x) := by
        have h1 := hO.cellAt k (by omega)
        rw [List.getElem?_map, hx] at h1
        exact (hB.cell (cell_block h1)).trans h1
      have hxn := hS.lt (List.mem_of_getElem? hx)
      have hxn' : (x : Int) < (L.length : Int) := by omega
      have hnew := take_new HD.out hx
      have hMn : ∀ n, MapHas (wr.drewN n) W3.heap.size natV (S.take k) := fun n => hMp.heap rfl
      have hget : ∀ n, (Instr.lookup 45 (.map (some W3.heap.size)) (.int .i64 (x : Int)) false).run Try.prog (wr.drewN n) = .ok (.bool false) (wr.drewN n) := fun n => none_int (hMn n) hnew
      have hput : Hid (∀ n, ∃ w', (Instr.mapUpdate 45 (.map (some W3.heap.size)) (.int .i64 (x : Int)) (.bool true)).run Try.prog (wr.drewN n) = .ok () w' ∧ MapHas w' W3.heap.size natV (S.take (k + 1)) ∧ Below W3.heap.size W3 w') := fun n => by
        obtain ⟨w', h1, h2, h3⟩ := put_int (hMn n) hnew
        rw [take_put1 hx] at h2
        exact ⟨w', h1, h2, (below_drewN hB n).grown h3 hB.size (fun k h => by cases h; omega)⟩
      clear hMn hMp
      obtain ⟨b, off, ea, hbV, hcell⟩ := (hL3.below hB).block (by omega)
      subst ea
      obtain ⟨p0, p1, p2, p3⟩ := hcell x hxn
      clear p1 p2 p3
      have d1 : decide ((x : Int) < 0) = false := decide_eq_false (by omega)
      have d2 : decide ((L.length : Int) ≤ (x : Int)) = false := decide_eq_false (by omega)
      have d2' : decide (L.length ≤ x) = false := decide_eq_false (by omega)
      have HX : Hid (S[k]? = some x) := hx
      clear hx hnew
      rcases Nat.eq_zero_or_pos k with hz | hpos
      · have d3 : decide ((0 : Int) < (k : Int)) = false := decide_eq_false (by omega)
        have d4 : decide (0 < k) = false := decide_eq_false (by omega)
        clear hcell hz
        go_upto_region 14 with (fail)
        clear hcx p0
        go_quiet (fail)
        obtain ⟨w', hp, hM3, hB3⟩ := hput.out nq
        clear hput hget hB
        go_wp2_with (fail)
        refine ⟨⟨k + 1, by omega, rfl, hM3, hB3⟩, ?_⟩
        simp [intOf]; omega
      · obtain ⟨y, hy⟩ : ∃ y, S[k - 1]? = some y := ⟨_, List.getElem?_eq_getElem (by rw [hS.length]; omega)⟩
        obtain ⟨j, hj⟩ : ∃ j : Nat, j = k - 1 := ⟨_, rfl⟩
        have hcy : wr.cell? ⟨gs, j, none⟩ = some (.int .i64 y) := by
          have h1 := hO.cellAt (k - 1) (by omega)
          rw [List.getElem?_map, hy] at h1
          rw [hj]
          exact (hB.cell (cell_block h1)).trans h1
        have hyn := hS.lt (List.mem_of_getElem? hy)
        have hyn' : (y : Int) < (L.length : Int) := by omega
        have hjk : (k : Int) - 1 = (j : Int) := by omega
        have hjn : (j : Int) < (L.length : Int) := by omega
        obtain ⟨q0, q1, q2, q3⟩ := hcell y hyn
        have hlts := sorted_step hS (by omega) hy HX.out
        have d3 : (0 : Int) < (k : Int) := by omega
        clear hcell q1 q2 q3 hy hj
        generalize hX : (bx L x).l = X at *
        generalize hY : (bx L y).l = Y at *
        clear hX hY
        rcases hlts with hlt2 | ⟨heq, hlt2⟩
        · have d5 : decide (X < Y) = false := decide_eq_false (by omega)
          have d6 : decide (Y = X) = false := decide_eq_false (by omega)
          have d7 : (Y == X) = false := by simp; omega
          go_upto_region 14 with (fail)
          clear hcx
          go_quiet (fail)
          obtain ⟨w', hp, hM3, hB3⟩ := hput.out nq
          clear hput hget hB
          go_wp2_with (fail)
          refine ⟨⟨k + 1, by omega, rfl, hM3, hB3⟩, ?_⟩
          simp [intOf]; omega
        · subst heq
          have d5 : decide (Y < Y) = false := decide_eq_false (by omega)
          have d6 : decide ((x : Int) < (y : Int)) = false := decide_eq_false (by omega)
          have d7 : decide (x < y) = false := decide_eq_false (by omega)
          go_upto_region 14 with (fail)
          clear hcx
          go_quiet (fail)
          obtain ⟨w', hp, hM3, hB3⟩ := hput.out nq
          clear hput hget hB
          go_wp2_with (fail)
          refine ⟨⟨k + 1, by omega, rfl, hM3, hB3⟩, ?_⟩
          simp [intOf]; omega
    · have hi : ¬ (k : Int) < (L.length : Int) := by omega
      clear hMp hk hlt hO HD hS
      go_upto_region 19 with (fail)
      obtain ⟨Q, rfl⟩ : ∃ Q, Q = wr := ⟨_, rfl⟩
      go_loopw [123] (fun i wr => ∃ k : Nat, k ≤ L.length ∧ i = .int .i64 k ∧ Below W3.heap.size W3 wr) (fun i _ => L.length - (intOf i).toNat)
      case atStart => exact ⟨0, by omega, rfl, hB⟩
      case round =>
        clear hB hi
        obtain ⟨k, hk, rfl, hB⟩ := hrel
        have hLr := hL3.below hB
        have hMr := hM3.below hB
        by_cases hlt : k < L.length
        · have hi : (k : Int) < (L.length : Int) := by omega
          obtain ⟨b, off, ea, hbV, hcell⟩ := hLr.block (by omega)
          subst ea
          obtain ⟨b2, off2, ea2, hbV2, hcell2⟩ := hMr.block (by omega)
          cases ea2
          obtain ⟨p0, p1, p2, p3⟩ := hcell k hlt
          obtain ⟨q0, q1, q2, q3⟩ := hcell2 k hlt
          have hne := fun w => ne_same_bx (bx L k).l (bx L k).m (bx L k).h (bx L k).k w
          simp only [Nat.zero_add] at q0 q1 q2 q3
          clear hcell hcell2
          go_upto_region 21 with (fail)
          go_quiet (fail)
          go_wp2_with (fail)
          refine ⟨⟨k + 1, by omega, rfl, below_drewN hB _⟩, ?_⟩
          simp [intOf]; omega
        · have hi : ¬ (k : Int) < (L.length : Int) := by omega
          have z77 : wr.cell? ⟨g, L.length * 4, none⟩ = some (.int .i64 (-77)) := (hB.cell (cell_block h77')).trans h77'
          have hbr := back_run g L.length cap2 hcap
          have hR := rpairs_any L a cap wr hLr (by omega)
          have hAl : Hid ((prs L).length = A.length) := by show _ = _; rw [HA.out]; simp
          have hcap' : (L.length : Int) + 1 ≤ (cap2 : Int) := by omega
          have Tr := T3.on hB
          clear hLr hMr hL3 hM3 h77' T3
          go_wp2_with (first
            | (go_at_call 14; go_fit hR; rintro e Y1 ⟨⟨vr, rfl, hvr⟩, hY1⟩; rw [nat_flat, ← HA.out, hAl.out] at hvr; obtain ⟨ar, cr, rfl, rr⟩ := own_reads hvr; have T1 := Tr.on hY1)
            | (go_at_call 13; go_fit (same_same aa ar ca cr A _ T1.pa (readsJ rr) (by omega)); rintro e Y2 ⟨rfl, hY2⟩; have T2 := T1.on hY2)
            | (go_at_call 13; go_fit (same_same aa ab ca cb A _ T2.pa T2.pb (by omega)); rintro e Y3 ⟨rfl, hY3⟩; have T3 := T2.on hY3)
            | (go_at_call 15; go_fit T3.apart; rintro e Y4 ⟨rfl, hY4⟩)
            | fail)
          go_ret
          exact ⟨rfl, (on_trans (on_trans (on_trans (on_trans G3 hB) hY1) hY2) hY3).trans (hY4.mono hww)⟩

set_option maxRecDepth 100000 in
theorem tells_out (a : Option Addr) (cap n : Nat) (hn : 50 < n) (w : World) :
    Calls Try.prog 3 #[.slice a n cap] w fun e w' => e = .returned (.bool true) ∧ Below w.heap.size w w' := by
  have hA : Hid (∀ W, Calls Try.prog 8 #[] W fun e w' => e = .returned (.bool true) ∧ Below W.heap.size W w') := fun W => alive_any W
  have g1 : (50 : Int) < (n : Int) := by omega
  go_enter Try.func3, Try.ntmps3
  go_wp2_with (first
    | (go_at_call 8; go_fit (hA.out _); rintro e V ⟨rfl, hV⟩))
  go_ret
  exact ⟨rfl, hV⟩
end Go.Proofs.Ytflffgjldoipfaa
