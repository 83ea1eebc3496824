/-
  The document's own Read: the records of a root, and the pages that were seen.
-/
import Derived.Test.YtbkkhafckkndfaaGreatPxEKeep
import Derived.Test.YtbkkhafckkndfaaGreatPxTRefNew
import Derived.Laws.OwnMore
import Derived.Deep.OwnRows
namespace Go.Proofs.YtbkkhafckkndfaaGreat
open Go Go.RowKit

theorem seenC_nil (ld : Ld) : seenC ld [] = List.replicate 200 (Value.string ByteArray.empty) := by
  unfold seenC
  rw [List.eq_replicate_iff]
  refine ⟨by simp, fun b hb => ?_⟩
  obtain ⟨k, _, rfl⟩ := List.mem_map.1 hb
  rfl
set_option maxRecDepth 100000 in
theorem make_seen (ld : Ld) (w : World) : (Instr.makeSlice 22 (.int .i64 200) (.int .i64 200)).run Tryz.prog w = .ok (.slice (some ⟨w.heap.size, 0, none⟩) 200 200) (w.alloc (.cells (seenC ld []).toArray 9)) := by
  have h := run_make_row' (P := Tryz.prog) 22 9 (.string ByteArray.empty) 16 Tryz.underlying22 (by kernel_rfl) rfl .i64 .i64 200 (by omega) (by omega) w
  have e : (seenC ld []).toArray = madeCells #[Value.string ByteArray.empty] 200 := by
    apply Array.ext'
    rw [toList_madeCells_one, seenC_nil]
  rw [e]
  exact h
theorem rs_new (w : World) (ld : Ld) : RS w (w.alloc (.cells (seenC ld []).toArray 9)) w.heap.size ld [] :=
  ⟨heap_alloc_new w _, ((Grew.refl w).alloc _ _).below, Nat.le_refl _, fun n hn => absurd hn (by simp)⟩
theorem own_up {w : World} {B l : Nat} {E : TypeId} {v : Value} {L : List Pr} {K : Int} {t : ByteArray} (hl : L.length = l) (h : w.ownsRow B E 2 v (l + 1) (prsV L ++ [.int .i64 K, .string t])) : w.ownsRow B E 2 v (L ++ [(⟨K, t⟩ : Pr)]).length (prsV (L ++ [(⟨K, t⟩ : Pr)])) := by
  rw [prs_more, List.length_append, hl]
  exact h
theorem lastK_at {L : List Pr} {l : Nat} (h : L.length = l + 1) : lastK L = (L.getD l noPr).n := by
  obtain ⟨A, x, rfl⟩ : ∃ A x, L = A ++ [x] := ⟨L.dropLast, L.getLast (by intro e; rw [e] at h; simp at h), (List.dropLast_concat_getLast _).symm⟩
  have : A.length = l := by simpa using h
  subst this
  rw [lastK_more]
  simp [List.getD]
def strZ : Value → Nat
  | .string s => s.size
  | _ => 0
set_option maxRecDepth 100000 in
set_option maxHeartbeats 16000000 in
theorem rread_any {w : World} {d : Nat} {ld : Ld} (hL : RLd w d ld) (root : Int) :
    Calls Tryz.prog 12 #[.pointer (some ⟨d, 0, none⟩), .int .i64 root] w fun e w' => RReadE w w' ld (rdM ld root) e := by
  have hmk := make_seen ld
  have h1 := rs_new w ld
  obtain ⟨R, hR⟩ : ∃ R, rdM ld root = R := ⟨_, rfl⟩
  rw [hR]
  obtain ⟨w1, hw1⟩ : ∃ w1, w.alloc (.cells (seenC ld []).toArray 9) = w1 := ⟨_, rfl⟩
  have hmk2 : (Instr.makeSlice 22 (.int .i64 200) (.int .i64 200)).run Tryz.prog w = .ok (.slice (some ⟨w.heap.size, 0, none⟩) 200 200) w1 := by rw [← hw1]; exact hmk w
  rw [hw1] at h1
  clear hmk hw1
  obtain ⟨s, hs⟩ : ∃ s, w.heap.size = s := ⟨_, rfl⟩
  rw [hs] at h1 hmk2
  have hLk : Hid (∀ W T n, RS w W s ld T → Calls Tryz.prog 21 #[.pointer (some ⟨d, 0, none⟩), .int .i64 n, .slice (some ⟨s, 0, none⟩) 200 200] W fun e w' => e = .returned (.tuple #[.string (ld n).1, .int .i64 (ld n).2]) ∧ RS w w' s ld (seeT ld n T) ∧ But (fun i => i = s) W w') := fun W T n h => look_any hL h n
  have hNo : Hid (∀ W E, R.1 = E → ¬ E = 0 → Below w.heap.size w W → RReadE w W ld R (.returned (.tuple #[.slice none 0 0, .slice none 0 0, .int .i64 E]))) := fun W E a b c => rread_no a b c
  have hL0 := hLk.out w1 [] root h1
  obtain ⟨X, hX⟩ : ∃ X, (ld root).1 = X := ⟨_, rfl⟩
  obtain ⟨E, hE⟩ : ∃ E, (ld root).2 = E := ⟨_, rfl⟩
  rw [hX, hE] at hL0
  by_cases he : E = 0
  · subst he
    have hT1 : seeT ld root [] = [root] := if_pos hE
    rw [hT1] at hL0
    replace hL0 : Hid (Calls Tryz.prog 21 #[.pointer (some ⟨d, 0, none⟩), .int .i64 root, .slice (some ⟨s, 0, none⟩) 200 200] w1 fun e w' => e = .returned (.tuple #[.string X, .int .i64 0]) ∧ RS w w' s ld [root] ∧ But (fun i => i = s) w1 w') := hL0
    have hSl := fun W => refslots_any X W
    cases hi : isIdx X with
    | false =>
      have hR1 : R.1 = 5 := by
        rw [← hR]
        unfold rdM
        rw [hE, hX, hi]
        rfl
      replace hSl : Hid (∀ W, Calls Tryz.prog 22 #[.string X] W fun e w' => ∃ v, e = .returned (.tuple #[v, .bool false]) ∧ Below W.heap.size W w') := fun W => (hSl W).mono fun e w' ⟨v, a, _, b⟩ => ⟨v, by rw [hi] at a; exact a, b⟩
      clear hLk hR hL hX hE hT1 h1
      replace hR1 : Hid (R.1 = 5) := hR1
      go_enter Tryz.func12, Tryz.ntmps12
      go_wp2_with (first
        | (go_at_call 21; go_fit hL0.out; rintro e w2 ⟨rfl, hRS, _⟩)
        | (go_at_call 22; go_fit (hSl.out _); rintro e w3 ⟨v, rfl, g3⟩)
        | fail)
      go_ret3
      exact hNo.out _ _ hR1.out (by decide) (hRS.bel.trans (g3.mono hRS.bel.size))
    | true =>
      obtain ⟨S, hS⟩ : ∃ S, idxS X = S := ⟨_, rfl⟩
      have hRS0 : sltM ld S [] [root] = R := by
        rw [← hR, ← hS]
        unfold rdM
        rw [hE, hX, hi]
        rfl
      have hSlen : S.length ≤ 21 := by rw [← hS]; exact idx_few hi
      replace hSl : Hid (∀ W, Calls Tryz.prog 22 #[.string X] W fun e w' => ∃ v, e = .returned (.tuple #[v, .bool true]) ∧ w'.ownsRow W.heap.size 77 2 v S.length (slsV S) ∧ Below W.heap.size W w') := fun W => (hSl W).mono fun e w' ⟨v, a, a2, b⟩ => ⟨v, by rw [hi] at a; exact a, by rw [hS] at a2; exact a2, b⟩
      clear hR hX hE hT1 h1 hS hi
      have hws : Hid (w.heap.size = s) := hs
      replace hRS0 : Hid (sltM ld S [] [root] = R) := hRS0
      replace hL : Hid (RLd w d ld) := hL
      go_enter Tryz.func12, Tryz.ntmps12
      go_wp2_with (first
        | (go_at_call 21; go_fit hL0.out; rintro e w2 ⟨rfl, hRS, _⟩)
        | (go_at_call 22; go_fit (hSl.out _); rintro e w3 ⟨vS, rfl, hrS, g3⟩)
        | fail)
      have hX3 : XR w w3 s ld [root] (.slice none 0 0) [] vS S (.slice none 0 0) [] := ⟨hRS.below g3, World.ownsRow_nil _ _ _ _, row_low hrS hRS.bel.size, World.ownsRow_nil _ _ _ _⟩
      obtain ⟨aS, cS, rfl, _⟩ := slots_of hrS
      obtain ⟨n, hn⟩ : ∃ n, S.length = n := ⟨_, rfl⟩
      rw [hn]
      have hn21 : n ≤ 21 := by omega
      replace hn : Hid (S.length = n) := hn
      clear hrS hL0 hSl hRS g3 hmk2 hSlen
      go_loopw [7, 13] (fun v i wr => ∃ (k : Nat) (L : List Pr) (T : List Int), k ≤ n ∧ i = .int .i64 (k : Int) ∧ L.length ≤ 200 * k ∧ XR w wr s ld T v L (.slice aS n cS) S (.slice none 0 0) [] ∧ sltM ld (S.drop k) L T = R) (fun _ i _ => n - (intOf i).toNat)
      case atStart => exact ⟨0, [], [root], Nat.zero_le _, rfl, Nat.zero_le _, (by rw [hn.out] at hX3; exact hX3), by rw [List.drop_zero]; exact hRS0.out⟩
      case round =>
        clear hX3 hRS0
        obtain ⟨k, L, T, hk, rfl, hLl, hX, hRk⟩ := hrel
        obtain ⟨W4, rfl⟩ : ∃ W, W = wr := ⟨_, rfl⟩
        by_cases hlt : k < n
        · have hki : (k : Int) < n := by omega
          have hkS : k < S.length := by rw [hn.out]; exact hlt
          obtain ⟨bS, oS, rfl, hcs⟩ := (own_sls (by have := hX.sl; rw [hn.out] at this; exact this)).resolve_left (fun e => by rw [e] at hkS; simp at hkS)
          obtain ⟨d0, d1⟩ := hcs k hkS
          rw [drop_get S k ⟨0, 0⟩ hkS] at hRk
          generalize S.getD k ⟨0, 0⟩ = x at *
          obtain ⟨K, Pg⟩ := x
          dsimp only at d0 d1
          clear hcs
          have hLx := hLk.out W4 T Pg hX.rs
          have hcell := fun W => refcells_any (ld Pg).1 W
          obtain ⟨Y, hY⟩ : ∃ Y, (ld Pg).1 = Y := ⟨_, rfl⟩
          obtain ⟨E2, hE2⟩ : ∃ E, (ld Pg).2 = E := ⟨_, rfl⟩
          rw [hY, hE2] at hLx
          rw [hY] at hcell
          by_cases he : E2 = 0
          · subst he
            have hT2 : seeT ld Pg T = Pg :: T := if_pos hE2
            rw [hT2] at hLx
            replace hLx : Hid (Calls Tryz.prog 21 #[.pointer (some ⟨d, 0, none⟩), .int .i64 Pg, .slice (some ⟨s, 0, none⟩) 200 200] W4 fun e w' => e = .returned (.tuple #[.string Y, .int .i64 0]) ∧ RS w w' s ld (Pg :: T) ∧ But (fun i => i = s) W4 w') := hLx
            cases hi : isLeaf Y with
            | false =>
              have hR1 : Hid (R.1 = 5) := by
                show _ = _
                rw [← hRk]
                exact slt_form hE2 (by rw [hY]; unfold leafAt; rw [hi]; rfl)
              replace hcell : Hid (∀ W, Calls Tryz.prog 23 #[.string Y] W fun e w' => ∃ v, e = .returned (.tuple #[v, .bool false]) ∧ Below W.heap.size W w') := fun W => (hcell W).mono fun e w' ⟨v, a, _, b⟩ => ⟨v, by rw [hi] at a; exact a, b⟩
              clear hX hRk hE2 hY hT2
              go_upto_region 16 with (first
                | (go_at_call 21; go_fit hLx.out; rintro e w5 ⟨rfl, hRS5, _⟩)
                | (go_at_call 23; go_fit (hcell.out _); rintro e w6 ⟨v6, rfl, g6⟩)
                | fail)
              go_quiet (fail)
              go_wp2_with (fail)
              go_ret3
              exact hNo.out _ _ hR1.out (by decide) (drewN_below (hRS5.bel.trans (g6.mono hRS5.bel.size)) _)
            | true =>
              obtain ⟨C, hC⟩ : ∃ C, cellsS Y = C := ⟨_, rfl⟩
              obtain ⟨m, hm⟩ : ∃ m, C.length = m := ⟨_, rfl⟩
              replace hcell : Hid (∀ W, Calls Tryz.prog 23 #[.string Y] W fun e w' => ∃ a c, e = .returned (.tuple #[.slice a m c, .bool true]) ∧ w'.ownsRow W.heap.size 82 4 (.slice a m c) m (cesV C) ∧ Below W.heap.size W w') := fun W => (hcell W).mono fun e w' ⟨v, a, a2, b⟩ => by
                rw [hC] at a2
                rw [hi] at a
                obtain ⟨a', c', rfl, _⟩ := cells_of a2
                rw [hm] at a
                exact ⟨a', c', a, by rw [hm] at a2; exact a2, b⟩
              by_cases hm0 : m = 0
              · subst hm0
                have hR1 : Hid (R.1 = 5) := by
                  show _ = _
                  rw [← hRk]
                  exact slt_form hE2 (by rw [hY]; unfold leafAt; rw [hi, hC, List.eq_nil_of_length_eq_zero hm]; rfl)
                clear hX hRk hE2 hY hT2
                go_upto_region 16 with (first
                  | (go_at_call 21; go_fit hLx.out; rintro e w5 ⟨rfl, hRS5, _⟩)
                  | (go_at_call 23; go_fit (hcell.out _); rintro e w6 ⟨a6, c6, rfl, _, g6⟩)
                  | fail)
                go_quiet (fail)
                go_wp2_with (fail)
                go_ret3
                exact hNo.out _ _ hR1.out (by decide) (drewN_below (hRS5.bel.trans (g6.mono hRS5.bel.size)) _)
              · obtain ⟨c0, hc0⟩ : ∃ c, C.getD 0 noCe = c := ⟨_, rfl⟩
                by_cases hky : c0.key = K
                · have hAt := AtC.start (x := ⟨K, Pg⟩) hRk hE2 (by rw [hY]; exact hi) (by rw [hY, hC, hm]; omega) (by rw [hY, hC, hc0]; exact hky)
                  rw [hY, hC] at hAt
                  replace hAt : Hid (AtC ld C (S.drop (k + 1)) R 0 L (Pg :: T)) := hAt
                  have hm1 : ¬ (m : Int) = 0 := by omega
                  have hm2 : ((m : Int) == 0) = false := by simpa using hm1
                  have hm3 : (0 : Int) < m := by omega
                  have hbs : bS ≠ s := fun e => row_off hX.sl hX.rs.blk (by decide) (by rw [e]; rfl)
                  have hX4 : Hid (XR w W4 s ld T u7 L (.slice (some ⟨bS, oS, none⟩) n cS) S (.slice none 0 0) []) := hX
                  clear hX hRk hE2 hY hT2
                  go_upto_region 16 with (first
                    | (go_at_call 21; go_fit hLx.out; rintro e w5 ⟨rfl, hRS5, hB5⟩)
                    | (go_at_call 23; go_fit (hcell.out _); rintro e w6 ⟨a6, c6, rfl, hr6, g6⟩)
                    | fail)
                  have hX6 : XR w w6 s ld (Pg :: T) u7 L (.slice (some ⟨bS, oS, none⟩) n cS) S (.slice a6 m c6) C := ((hX4.out.look hRS5 hB5).below g6).cells (by rw [hm]; exact row_low hr6 hRS5.bel.size)
                  have d0' := below_cell g6 (hB5.cell d0 hbs)
                  obtain ⟨bC, oC, rfl, hcs⟩ := (own_ces hr6).resolve_left (fun e => by rw [e] at hm; simp at hm; omega)
                  obtain ⟨e0, _⟩ := hcs 0 (by omega)
                  rw [hc0, Nat.zero_mul, Nat.add_zero] at e0
                  obtain ⟨K0, Z0, P0, B0⟩ := c0
                  dsimp only at e0 hky
                  subst hky
                  have hlf : Hid (leafOk C = true) := by
                    show _ = _
                    rw [← hC]
                    exact leaf_ok hi
                  have hm200 : m ≤ 200 := by
                    have := leaf_few hlf.out
                    omega
                  have hYC : Hid (isLeaf Y = true ∧ cellsS Y = C) := ⟨hi, hC⟩
                  replace hm : Hid (C.length = m) := hm
                  replace hX6 : Hid (XR w w6 s ld (Pg :: T) u7 L (.slice (some ⟨bS, oS, none⟩) n cS) S (.slice (some ⟨bC, oC, none⟩) m c6) C) := hX6
                  clear hcs hr6 hX4 hLx hcell hi hC hRS5 hB5 g6 hc0
                  go_quiet (fail)
                  go_wp2_with (fail)
                  go_loopw [7, 18] (fun v i wr => ∃ (j : Nat) (L2 : List Pr) (T2 : List Int), j ≤ m ∧ i = .int .i64 (j : Int) ∧ L2.length ≤ 200 * k + j ∧ XR w wr s ld T2 v L2 (.slice (some ⟨bS, oS, none⟩) n cS) S (.slice (some ⟨bC, oC, none⟩) m c6) C ∧ AtC ld C (S.drop (k + 1)) R j L2 T2) (fun _ i _ => m - (intOf i).toNat)
                  case atStart => exact ⟨0, L, Pg :: T, Nat.zero_le _, rfl, by omega, hX6.out.below (drewN_below (Below.refl _ _) _), hAt.out⟩
                  case round =>
                    clear hX6 hAt d0 d0' e0 d1 hm1 hm2 hm3
                    obtain ⟨j, L2, T2, hj, rfl, hLl2, hX, hAt⟩ := hrel
                    obtain ⟨W7, rfl⟩ : ∃ W, W = wr := ⟨_, rfl⟩
                    by_cases hlj : j < m
                    · have hji : (j : Int) < m := by omega
                      have hjC : j < C.length := by rw [hm.out]; exact hlj
                      have hok : ceOk C j = true := by
                        have := cel_good hYC.out.1 (j := j) (by rw [hYC.out.2]; exact hjC)
                        rw [hYC.out.2] at this
                        exact this
                      have hcs := ((own_ces (by have := hX.ce; rw [hm.out] at this; exact this)).resolve_left (fun e => by rw [e] at hjC; simp at hjC))
                      obtain ⟨b2, o2, eb, hcs⟩ := hcs
                      cases eb
                      obtain ⟨e0, e1, e2, e3⟩ := hcs j hjC
                      obtain ⟨q0, q1, q2, q3⟩ := good_is (ceOk_good hok)
                      have hgd : Hid (ceGood (C.getD j noCe) = true) := ceOk_good hok
                      have hv0 := VarC.new W7 (C.getD j noCe)
                      have hX0 := hX.below (((Grew.refl W7).alloc (#[.int .i64 (C.getD j noCe).key, .int .i64 (C.getD j noCe).size, .int .i64 (C.getD j noCe).page, .string (C.getD j noCe).bytes] : Array Value) 82).below)
                      obtain ⟨aL, cL, rfl, hPr⟩ := prs_of hX.out
                      obtain ⟨l2, hl2⟩ : ∃ l, L2.length = l := ⟨_, rfl⟩
                      have hstop := hAt.stop hjC
                      have hgo := hAt.go hjC
                      obtain ⟨c, hc⟩ : ∃ c, C.getD j noCe = c := ⟨_, rfl⟩
                      rw [hc] at e0 e1 e2 e3 q0 q1 q2 q3 hgd hv0 hX0 hstop hgo
                      have hnx : Hid (∀ L T T' t, contR ld (S.drop (k + 1)) (celM ld (c :: C.drop (j + 1)) L T) = R → textR ld c T = (0, t, T') → AtC ld C (S.drop (k + 1)) R (j + 1) (L ++ [⟨c.key, t⟩]) T') := fun L T T' t h h2 => by
                        obtain ⟨y1, y2⟩ := hYC.out
                        have := AtC.next (ld := ld) (s := Y) (S := S.drop (k + 1)) (R := R) (j := j) (L := L) (T := T) (T' := T') (t := t)
                        rw [y2, hc] at this
                        exact this h y1 h2
                      obtain ⟨Kc, Zc, Pc, Bc⟩ := c
                      dsimp only at e0 e1 e2 e3 q0 q1 q2 q3 hv0 hX0 hstop hgo
                      rw [hl2] at hLl2
                      obtain ⟨ir, zr, r1, r2, r3, r4, r5⟩ := info_rrec
                      replace hl2 : Hid (L2.length = l2) := hl2
                      replace hX0 : Hid (XR w (W7.alloc (.cells #[.int .i64 Kc, .int .i64 Zc, .int .i64 Pc, .string Bc] 82)) s ld T2 (.slice aL l2 cL) L2 (.slice (some ⟨bS, oS, none⟩) n cS) S (.slice (some ⟨bC, oC, none⟩) m c6) C) := by
                        have := hX0
                        rw [hl2.out] at this
                        exact this
                      have hw0 : (W7.alloc (.cells #[.int .i64 Kc, .int .i64 Zc, .int .i64 Pc, .string Bc] 82)).cell? ⟨W7.heap.size, 0, none⟩ = some (.int .i64 Kc) := hv0.k0
                      replace hv0 : Hid (VarC (W7.alloc (.cells #[.int .i64 Kc, .int .i64 Zc, .int .i64 Pc, .string Bc] 82)) W7.heap.size ⟨Kc, Zc, Pc, Bc⟩) := hv0
                      rw [hl2.out]
                      clear hX hcs hok hAt q3
                      by_cases hz : l2 = 0
                      · have hnil : L2 = [] := List.eq_nil_of_length_eq_zero (hl2.out.trans hz)
                        have hgo : Hid (contR ld (S.drop (k + 1)) (celM ld (⟨Kc, Zc, Pc, Bc⟩ :: C.drop (j + 1)) L2 T2) = R) := hgo (by rw [hnil, lastK_nil]; omega)
                        subst hz
                        clear hnil hstop hPr
                        go_upto_region 22 with (fail)
                        go_quiet (fail)
                        go_upto_region 24 with (fail)
                        go_quiet (fail)
                        go_wp2_with (fail)
                        go_loopw [20, 21] (fun t nx wr => ∃ (acc : ByteArray) (nxt : Int) (T3 : List Int), t = .string acc ∧ nx = .int .i64 nxt ∧ XR w wr s ld T3 (.slice aL 0 cL) L2 (.slice (some ⟨bS, oS, none⟩) n cS) S (.slice (some ⟨bC, oC, none⟩) m c6) C ∧ VarC wr W7.heap.size ⟨Kc, Zc, Pc, Bc⟩ ∧ AtT ld ⟨Kc, Zc, Pc, Bc⟩ T2 acc nxt T3) (fun t _ _ => Zc.toNat - strZ t)
                        case atStart => exact ⟨Bc, Pc, T2, rfl, rfl, hX0.out.below (drewN_below (Below.refl _ _) _), hv0.out.below (drewN_below (Below.refl _ _) _), AtT.start hgd.out⟩
                        case round =>
                          obtain ⟨acc, nxt, T3, rfl, rfl, hX8, hV8, hAT⟩ := hrel
                          obtain ⟨W8, rfl⟩ : ∃ W, W = wr := ⟨_, rfl⟩
                          have v0 := hV8.k0
                          have v1 := hV8.k1
                          dsimp only at v0 v1
                          have hout : Hid (W8.ownsRow w.heap.size 83 2 (.slice aL 0 cL) (0) (prsV L2)) := by
                            have := hX8.out
                            rw [hl2.out] at this
                            exact this
                          have hwl : w.heap.size ≤ W8.heap.size := hX8.rs.bel.size
                          have hbel : Hid (Below w.heap.size w W8) := hX8.rs.bel
                          replace hX8 : Hid (XR w W8 s ld T3 (.slice aL 0 cL) L2 (.slice (some ⟨bS, oS, none⟩) n cS) S (.slice (some ⟨bC, oC, none⟩) m c6) C) := hX8
                          rcases hAT with ⟨hz24, ht⟩ | ⟨hz24, hle, ht⟩
                          · have g1 : ¬ (24 : Int) < Zc := by dsimp only at hz24; omega
                            have hnext := hnx.out _ _ _ _ hgo.out ht
                            clear ht hV8 hz24
                            go_wp2_with (first
                              | (at_builtin; refine wpList_app _ rfl (.tmp 172) (.tmp 177) 36 rfl w.heap.size 83 ir zr 2 24 Tryz.underlying36 r1 r2 r4 r5 r3 (by decide) _ _ _ rfl (hout.out.alloc _) (some ⟨W8.heap.size, 0, none⟩) 1 1 [.int .i64 Kc, .string acc] rfl rfl (.inr ⟨_, 0, rfl, fun j u hj => new_at _ _ _ _ (by simp) j u hj⟩) (fun u hu => by simp at hu; rcases hu with rfl | rfl <;> rfl) (by unfold maxLen; omega) (by omega) (by simp; omega) ?_; intro v5 w5 hv5 hg5 hk5 hl5)
                              | fail)
                            have hX9 := (hX8.out.below (((Grew.refl W8).alloc (#[.int .i64 Kc, .string acc] : Array Value) 83).below)).app hg5 (own_up hl2.out hv5)
                            go_roundw
                            case rel => first | exact ⟨j + 1, _, T3, hlj, by simp, (by have := hl2.out; simp; omega), hX9, hnext⟩ | ((repeat apply Exists.intro); exact ⟨⟨j + 1, _, T3, hlj, by simp, (by have := hl2.out; simp; omega), hX9, hnext⟩, rfl⟩)
                            case measure => exact meas_up hlj
                          · dsimp only at hz24 hle ht
                            have g1 : (24 : Int) < Zc := hz24
                            by_cases hlf : (acc.size : Int) < Zc
                            · by_cases hn0 : nxt = 0
                              · subst hn0
                                have hR1 : Hid (R.1 = 5) := cont_err hgo.out (by rw [← ht, tx_zero ld (by omega)]) (by decide)
                                clear ht hV8
                                go_wp2_with (fail)
                                go_ret3
                                exact hNo.out _ _ hR1.out (by decide) hbel.out
                              · have hLk8 := hLk.out W8 T3 nxt hX8.out.rs
                                have hLn := fun W => reflink_any (ld nxt).1 W
                                have htx := tx_err (ld := ld) (left := Zc.toNat - acc.size) (next := nxt) (by omega) hn0
                                have hbad := tx_bad (ld := ld) (left := Zc.toNat - acc.size) (next := nxt) (by omega) hn0
                                have hstp := tx_step (ld := ld) (left := Zc.toNat - acc.size) (next := nxt) (by omega) hn0
                                have hsee : seeT ld nxt T3 = if (ld nxt).2 = 0 then nxt :: T3 else T3 := rfl
                                rw [hsee] at hLk8
                                generalize (ld nxt).1 = X3 at *
                                generalize (ld nxt).2 = E3 at *
                                by_cases hE3 : E3 = 0
                                · subst hE3
                                  rw [if_pos rfl] at hLk8
                                  replace hLk8 : Hid (Calls Tryz.prog 21 #[.pointer (some ⟨d, 0, none⟩), .int .i64 nxt, .slice (some ⟨s, 0, none⟩) 200 200] W8 fun e w' => e = .returned (.tuple #[.string X3, .int .i64 0]) ∧ RS w w' s ld (nxt :: T3) ∧ But (fun i => i = s) W8 w') := hLk8
                                  clear htx hsee
                                  obtain ⟨N3, t3, hlv⟩ : ∃ N t, linkV X3 = (N, t) := ⟨_, _, rfl⟩
                                  obtain ⟨z, hzm⟩ : ∃ z, min (Zc.toNat - acc.size) 120 = z := ⟨_, rfl⟩
                                  have hz2 : min (120 : Int) (Zc - (acc.size : Int)) = (z : Int) := by omega
                                  have hlB : linkB X3 z = (isLink X3.data.toList && decide (t3.size = z)) := by unfold linkB; rw [hlv]
                                  rw [hlv] at hstp
                                  rw [hzm] at hbad hstp
                                  dsimp only at hstp
                                  cases hlk : isLink X3.data.toList with
                                  | false =>
                                    rw [hlk, Bool.false_and] at hlB
                                    have hR1 : Hid (R.1 = 5) := cont_err hgo.out (by rw [← ht, hbad rfl hlB]) (by decide)
                                    replace hLn : Hid (∀ W, Calls Tryz.prog 24 #[.string X3] W fun e w' => e = .returned (.tuple #[.int .i64 N3, .string t3, .bool false]) ∧ Grew W w') := fun W => (hLn W).mono fun e w' ⟨a, b⟩ => ⟨by rw [a, hlv, hlk], b⟩
                                    clear ht hbad hstp hlv hlB
                                    go_wp2_with (first
                                      | (go_at_call 21; go_fit hLk8.out; rintro e w9 ⟨rfl, hRS9, hB9⟩; have hV9 := hV8.look hX8.out.rs hB9)
                                      | (go_at_call 24; go_fit (hLn.out _); rintro e w10 ⟨rfl, g10⟩; have v1a := (hV9.below g10.below).k1; dsimp only at v1a)
                                      | fail)
                                    go_ret3
                                    exact hNo.out _ _ hR1.out (by decide) (hRS9.bel.trans (g10.below.mono hRS9.bel.size))
                                  | true =>
                                    rw [hlk, Bool.true_and] at hlB
                                    replace hLn : Hid (∀ W, Calls Tryz.prog 24 #[.string X3] W fun e w' => e = .returned (.tuple #[.int .i64 N3, .string t3, .bool true]) ∧ Grew W w') := fun W => (hLn W).mono fun e w' ⟨a, b⟩ => ⟨by rw [a, hlv, hlk], b⟩
                                    by_cases hts : t3.size = z
                                    · rw [decide_eq_true hts] at hlB
                                      have hAT' : Hid (AtT ld ⟨Kc, Zc, Pc, Bc⟩ T2 (acc ++ t3) N3 (nxt :: T3)) := by
                                        refine .inr ⟨hz24, ?_, ?_⟩
                                        · rw [ByteArray.size_append]
                                          dsimp only
                                          omega
                                        · dsimp only
                                          rw [← ht, hstp rfl hlB, ByteArray.size_append, hts]
                                          congr 1
                                          omega
                                      have hmeas : Hid (Zc.toNat - (acc ++ t3).size < Zc.toNat - acc.size) := by
                                        show _ < _
                                        rw [ByteArray.size_append]
                                        omega
                                      have hti : (t3.size : Int) = (z : Int) := by omega
                                      have hbig : acc.size + t3.size ≤ 900 := by omega
                                      clear ht hbad hstp hlv hlB
                                      go_wp2_with (first
                                        | (go_at_call 21; go_fit hLk8.out; rintro e w9 ⟨rfl, hRS9, hB9⟩; have hV9 := hV8.look hX8.out.rs hB9)
                                        | (go_at_call 24; go_fit (hLn.out _); rintro e w10 ⟨rfl, g10⟩; have hV10 := hV9.below g10.below; have v1a := hV10.k1; dsimp only at v1a)
                                        | fail)
                                      have hX10 := (hX8.out.look hRS9 hB9).below g10.below
                                      go_roundw
                                      case rel => first | exact ⟨acc ++ t3, N3, nxt :: T3, rfl, rfl, hX10, hV10, hAT'.out⟩ | ((repeat apply Exists.intro); exact ⟨⟨acc ++ t3, N3, nxt :: T3, rfl, rfl, hX10, hV10, hAT'.out⟩, rfl⟩)
                                      case measure => exact hmeas.out
                                    · rw [decide_eq_false hts] at hlB
                                      have hR1 : Hid (R.1 = 5) := cont_err hgo.out (by rw [← ht, hbad rfl hlB]) (by decide)
                                      have hti : ¬ (t3.size : Int) = (z : Int) := by omega
                                      clear ht hbad hstp hlv hlB
                                      go_wp2_with (first
                                        | (go_at_call 21; go_fit hLk8.out; rintro e w9 ⟨rfl, hRS9, hB9⟩; have hV9 := hV8.look hX8.out.rs hB9)
                                        | (go_at_call 24; go_fit (hLn.out _); rintro e w10 ⟨rfl, g10⟩; have v1a := (hV9.below g10.below).k1; dsimp only at v1a)
                                        | fail)
                                      go_ret3
                                      exact hNo.out _ _ hR1.out (by decide) (hRS9.bel.trans (g10.below.mono hRS9.bel.size))
                                · have hR1 : Hid (R.1 = E3) := cont_err hgo.out (by rw [← ht, htx hE3]) hE3
                                  replace hLk8 : Hid (Calls Tryz.prog 21 #[.pointer (some ⟨d, 0, none⟩), .int .i64 nxt, .slice (some ⟨s, 0, none⟩) 200 200] W8 fun e w' => e = .returned (.tuple #[.string X3, .int .i64 E3]) ∧ RS w w' s ld (if E3 = 0 then nxt :: T3 else T3) ∧ But (fun i => i = s) W8 w') := hLk8
                                  clear ht hV8 hLn htx hbad hstp hsee
                                  go_wp2_with (first
                                    | (go_at_call 21; go_fit hLk8.out; rintro e w9 ⟨rfl, hRS9, _⟩)
                                    | fail)
                                  go_ret3
                                  exact hNo.out _ _ hR1.out hE3 hRS9.bel
                            · have hz0 : Zc.toNat - acc.size = 0 := by omega
                              rw [hz0, tx_end] at ht
                              by_cases hn0 : nxt = 0
                              · subst hn0
                                have hnext := hnx.out _ _ _ _ hgo.out (ht.symm.trans (by rw [if_pos rfl]))
                                clear ht hV8 hz0
                                go_wp2_with (first
                                  | (at_builtin; refine wpList_app _ rfl (.tmp 172) (.tmp 177) 36 rfl w.heap.size 83 ir zr 2 24 Tryz.underlying36 r1 r2 r4 r5 r3 (by decide) _ _ _ rfl (hout.out.alloc _) (some ⟨W8.heap.size, 0, none⟩) 1 1 [.int .i64 Kc, .string acc] rfl rfl (.inr ⟨_, 0, rfl, fun j u hj => new_at _ _ _ _ (by simp) j u hj⟩) (fun u hu => by simp at hu; rcases hu with rfl | rfl <;> rfl) (by unfold maxLen; omega) (by omega) (by simp; omega) ?_; intro v5 w5 hv5 hg5 hk5 hl5)
                                  | fail)
                                have hX9 := (hX8.out.below (((Grew.refl W8).alloc (#[.int .i64 Kc, .string acc] : Array Value) 83).below)).app hg5 (own_up hl2.out hv5)
                                go_roundw
                                case rel => first | exact ⟨j + 1, _, T3, hlj, by simp, (by have := hl2.out; simp; omega), hX9, hnext⟩ | ((repeat apply Exists.intro); exact ⟨⟨j + 1, _, T3, hlj, by simp, (by have := hl2.out; simp; omega), hX9, hnext⟩, rfl⟩)
                                case measure => exact meas_up hlj
                              · have hR1 : Hid (R.1 = 5) := cont_err hgo.out (by rw [← ht, if_neg hn0]) (by decide)
                                clear ht hV8 hz0
                                go_wp2_with (fail)
                                go_ret3
                                exact hNo.out _ _ hR1.out (by decide) hbel.out
                      · obtain ⟨l, rfl⟩ : ∃ l, l2 = l + 1 := ⟨l2 - 1, by omega⟩
                        have hlk : lastK L2 = (L2.getD l noPr).n := lastK_at hl2.out
                        obtain ⟨bL, oL, rfl, hps⟩ := hPr.resolve_left (fun e => by have := hl2.out; rw [e] at this; simp at this)
                        obtain ⟨p0, _⟩ := hps l (by rw [hl2.out]; omega)
                        have p0' := below_cell (((Grew.refl W7).alloc (#[.int .i64 Kc, .int .i64 Zc, .int .i64 Pc, .string Bc] : Array Value) 82).below) p0
                        rw [hlk] at hstop hgo
                        generalize (L2.getD l noPr).n = yn at *
                        have hzi : (0 : Int) < (l : Int) + 1 := by omega
                        have hzi2 : decide ((0 : Int) < (l : Int) + 1) = true := decide_eq_true hzi
                        have hzi3 : ¬ ((l : Int) + 1 ≤ 0) := by omega
                        clear hps p0 hlk hz
                        by_cases hy : yn < Kc
                        · have hgo : Hid (contR ld (S.drop (k + 1)) (celM ld (⟨Kc, Zc, Pc, Bc⟩ :: C.drop (j + 1)) L2 T2) = R) := hgo hy
                          have hyi : ¬ Kc ≤ yn := by omega
                          have hyi2 : decide (Kc ≤ yn) = false := decide_eq_false hyi
                          clear hstop
                          go_upto_region 22 with (fail)
                          go_quiet (fail)
                          go_upto_region 24 with (fail)
                          go_quiet (fail)
                          go_wp2_with (fail)
                          go_loopw [20, 21] (fun t nx wr => ∃ (acc : ByteArray) (nxt : Int) (T3 : List Int), t = .string acc ∧ nx = .int .i64 nxt ∧ XR w wr s ld T3 (.slice (some ⟨bL, oL, none⟩) (l + 1) cL) L2 (.slice (some ⟨bS, oS, none⟩) n cS) S (.slice (some ⟨bC, oC, none⟩) m c6) C ∧ VarC wr W7.heap.size ⟨Kc, Zc, Pc, Bc⟩ ∧ AtT ld ⟨Kc, Zc, Pc, Bc⟩ T2 acc nxt T3) (fun t _ _ => Zc.toNat - strZ t)
                          case atStart => exact ⟨Bc, Pc, T2, rfl, rfl, hX0.out.below (drewN_below (Below.refl _ _) _), hv0.out.below (drewN_below (Below.refl _ _) _), AtT.start hgd.out⟩
                          case round =>
                            obtain ⟨acc, nxt, T3, rfl, rfl, hX8, hV8, hAT⟩ := hrel
                            obtain ⟨W8, rfl⟩ : ∃ W, W = wr := ⟨_, rfl⟩
                            have v0 := hV8.k0
                            have v1 := hV8.k1
                            dsimp only at v0 v1
                            have hout : Hid (W8.ownsRow w.heap.size 83 2 (.slice (some ⟨bL, oL, none⟩) (l + 1) cL) ((l + 1)) (prsV L2)) := by
                              have := hX8.out
                              rw [hl2.out] at this
                              exact this
                            have hwl : w.heap.size ≤ W8.heap.size := hX8.rs.bel.size
                            have hbel : Hid (Below w.heap.size w W8) := hX8.rs.bel
                            replace hX8 : Hid (XR w W8 s ld T3 (.slice (some ⟨bL, oL, none⟩) (l + 1) cL) L2 (.slice (some ⟨bS, oS, none⟩) n cS) S (.slice (some ⟨bC, oC, none⟩) m c6) C) := hX8
                            rcases hAT with ⟨hz24, ht⟩ | ⟨hz24, hle, ht⟩
                            · have g1 : ¬ (24 : Int) < Zc := by dsimp only at hz24; omega
                              have hnext := hnx.out _ _ _ _ hgo.out ht
                              clear ht hV8 hz24
                              go_wp2_with (first
                                | (at_builtin; refine wpList_app _ rfl (.tmp 172) (.tmp 177) 36 rfl w.heap.size 83 ir zr 2 24 Tryz.underlying36 r1 r2 r4 r5 r3 (by decide) _ _ _ rfl (hout.out.alloc _) (some ⟨W8.heap.size, 0, none⟩) 1 1 [.int .i64 Kc, .string acc] rfl rfl (.inr ⟨_, 0, rfl, fun j u hj => new_at _ _ _ _ (by simp) j u hj⟩) (fun u hu => by simp at hu; rcases hu with rfl | rfl <;> rfl) (by unfold maxLen; omega) (by omega) (by simp; omega) ?_; intro v5 w5 hv5 hg5 hk5 hl5)
                                | fail)
                              have hX9 := (hX8.out.below (((Grew.refl W8).alloc (#[.int .i64 Kc, .string acc] : Array Value) 83).below)).app hg5 (own_up hl2.out hv5)
                              go_roundw
                              case rel => first | exact ⟨j + 1, _, T3, hlj, by simp, (by have := hl2.out; simp; omega), hX9, hnext⟩ | ((repeat apply Exists.intro); exact ⟨⟨j + 1, _, T3, hlj, by simp, (by have := hl2.out; simp; omega), hX9, hnext⟩, rfl⟩)
                              case measure => exact meas_up hlj
                            · dsimp only at hz24 hle ht
                              have g1 : (24 : Int) < Zc := hz24
                              by_cases hlf : (acc.size : Int) < Zc
                              · by_cases hn0 : nxt = 0
                                · subst hn0
                                  have hR1 : Hid (R.1 = 5) := cont_err hgo.out (by rw [← ht, tx_zero ld (by omega)]) (by decide)
                                  clear ht hV8
                                  go_wp2_with (fail)
                                  go_ret3
                                  exact hNo.out _ _ hR1.out (by decide) hbel.out
                                · have hLk8 := hLk.out W8 T3 nxt hX8.out.rs
                                  have hLn := fun W => reflink_any (ld nxt).1 W
                                  have htx := tx_err (ld := ld) (left := Zc.toNat - acc.size) (next := nxt) (by omega) hn0
                                  have hbad := tx_bad (ld := ld) (left := Zc.toNat - acc.size) (next := nxt) (by omega) hn0
                                  have hstp := tx_step (ld := ld) (left := Zc.toNat - acc.size) (next := nxt) (by omega) hn0
                                  have hsee : seeT ld nxt T3 = if (ld nxt).2 = 0 then nxt :: T3 else T3 := rfl
                                  rw [hsee] at hLk8
                                  generalize (ld nxt).1 = X3 at *
                                  generalize (ld nxt).2 = E3 at *
                                  by_cases hE3 : E3 = 0
                                  · subst hE3
                                    rw [if_pos rfl] at hLk8
                                    replace hLk8 : Hid (Calls Tryz.prog 21 #[.pointer (some ⟨d, 0, none⟩), .int .i64 nxt, .slice (some ⟨s, 0, none⟩) 200 200] W8 fun e w' => e = .returned (.tuple #[.string X3, .int .i64 0]) ∧ RS w w' s ld (nxt :: T3) ∧ But (fun i => i = s) W8 w') := hLk8
                                    clear htx hsee
                                    obtain ⟨N3, t3, hlv⟩ : ∃ N t, linkV X3 = (N, t) := ⟨_, _, rfl⟩
                                    obtain ⟨z, hzm⟩ : ∃ z, min (Zc.toNat - acc.size) 120 = z := ⟨_, rfl⟩
                                    have hz2 : min (120 : Int) (Zc - (acc.size : Int)) = (z : Int) := by omega
                                    have hlB : linkB X3 z = (isLink X3.data.toList && decide (t3.size = z)) := by unfold linkB; rw [hlv]
                                    rw [hlv] at hstp
                                    rw [hzm] at hbad hstp
                                    dsimp only at hstp
                                    cases hlk : isLink X3.data.toList with
                                    | false =>
                                      rw [hlk, Bool.false_and] at hlB
                                      have hR1 : Hid (R.1 = 5) := cont_err hgo.out (by rw [← ht, hbad rfl hlB]) (by decide)
                                      replace hLn : Hid (∀ W, Calls Tryz.prog 24 #[.string X3] W fun e w' => e = .returned (.tuple #[.int .i64 N3, .string t3, .bool false]) ∧ Grew W w') := fun W => (hLn W).mono fun e w' ⟨a, b⟩ => ⟨by rw [a, hlv, hlk], b⟩
                                      clear ht hbad hstp hlv hlB
                                      go_wp2_with (first
                                        | (go_at_call 21; go_fit hLk8.out; rintro e w9 ⟨rfl, hRS9, hB9⟩; have hV9 := hV8.look hX8.out.rs hB9)
                                        | (go_at_call 24; go_fit (hLn.out _); rintro e w10 ⟨rfl, g10⟩; have v1a := (hV9.below g10.below).k1; dsimp only at v1a)
                                        | fail)
                                      go_ret3
                                      exact hNo.out _ _ hR1.out (by decide) (hRS9.bel.trans (g10.below.mono hRS9.bel.size))
                                    | true =>
                                      rw [hlk, Bool.true_and] at hlB
                                      replace hLn : Hid (∀ W, Calls Tryz.prog 24 #[.string X3] W fun e w' => e = .returned (.tuple #[.int .i64 N3, .string t3, .bool true]) ∧ Grew W w') := fun W => (hLn W).mono fun e w' ⟨a, b⟩ => ⟨by rw [a, hlv, hlk], b⟩
                                      by_cases hts : t3.size = z
                                      · rw [decide_eq_true hts] at hlB
                                        have hAT' : Hid (AtT ld ⟨Kc, Zc, Pc, Bc⟩ T2 (acc ++ t3) N3 (nxt :: T3)) := by
                                          refine .inr ⟨hz24, ?_, ?_⟩
                                          · rw [ByteArray.size_append]
                                            dsimp only
                                            omega
                                          · dsimp only
                                            rw [← ht, hstp rfl hlB, ByteArray.size_append, hts]
                                            congr 1
                                            omega
                                        have hmeas : Hid (Zc.toNat - (acc ++ t3).size < Zc.toNat - acc.size) := by
                                          show _ < _
                                          rw [ByteArray.size_append]
                                          omega
                                        have hti : (t3.size : Int) = (z : Int) := by omega
                                        have hbig : acc.size + t3.size ≤ 900 := by omega
                                        clear ht hbad hstp hlv hlB
                                        go_wp2_with (first
                                          | (go_at_call 21; go_fit hLk8.out; rintro e w9 ⟨rfl, hRS9, hB9⟩; have hV9 := hV8.look hX8.out.rs hB9)
                                          | (go_at_call 24; go_fit (hLn.out _); rintro e w10 ⟨rfl, g10⟩; have hV10 := hV9.below g10.below; have v1a := hV10.k1; dsimp only at v1a)
                                          | fail)
                                        have hX10 := (hX8.out.look hRS9 hB9).below g10.below
                                        go_roundw
                                        case rel => first | exact ⟨acc ++ t3, N3, nxt :: T3, rfl, rfl, hX10, hV10, hAT'.out⟩ | ((repeat apply Exists.intro); exact ⟨⟨acc ++ t3, N3, nxt :: T3, rfl, rfl, hX10, hV10, hAT'.out⟩, rfl⟩)
                                        case measure => exact hmeas.out
                                      · rw [decide_eq_false hts] at hlB
                                        have hR1 : Hid (R.1 = 5) := cont_err hgo.out (by rw [← ht, hbad rfl hlB]) (by decide)
                                        have hti : ¬ (t3.size : Int) = (z : Int) := by omega
                                        clear ht hbad hstp hlv hlB
                                        go_wp2_with (first
                                          | (go_at_call 21; go_fit hLk8.out; rintro e w9 ⟨rfl, hRS9, hB9⟩; have hV9 := hV8.look hX8.out.rs hB9)
                                          | (go_at_call 24; go_fit (hLn.out _); rintro e w10 ⟨rfl, g10⟩; have v1a := (hV9.below g10.below).k1; dsimp only at v1a)
                                          | fail)
                                        go_ret3
                                        exact hNo.out _ _ hR1.out (by decide) (hRS9.bel.trans (g10.below.mono hRS9.bel.size))
                                  · have hR1 : Hid (R.1 = E3) := cont_err hgo.out (by rw [← ht, htx hE3]) hE3
                                    replace hLk8 : Hid (Calls Tryz.prog 21 #[.pointer (some ⟨d, 0, none⟩), .int .i64 nxt, .slice (some ⟨s, 0, none⟩) 200 200] W8 fun e w' => e = .returned (.tuple #[.string X3, .int .i64 E3]) ∧ RS w w' s ld (if E3 = 0 then nxt :: T3 else T3) ∧ But (fun i => i = s) W8 w') := hLk8
                                    clear ht hV8 hLn htx hbad hstp hsee
                                    go_wp2_with (first
                                      | (go_at_call 21; go_fit hLk8.out; rintro e w9 ⟨rfl, hRS9, _⟩)
                                      | fail)
                                    go_ret3
                                    exact hNo.out _ _ hR1.out hE3 hRS9.bel
                              · have hz0 : Zc.toNat - acc.size = 0 := by omega
                                rw [hz0, tx_end] at ht
                                by_cases hn0 : nxt = 0
                                · subst hn0
                                  have hnext := hnx.out _ _ _ _ hgo.out (ht.symm.trans (by rw [if_pos rfl]))
                                  clear ht hV8 hz0
                                  go_wp2_with (first
                                    | (at_builtin; refine wpList_app _ rfl (.tmp 172) (.tmp 177) 36 rfl w.heap.size 83 ir zr 2 24 Tryz.underlying36 r1 r2 r4 r5 r3 (by decide) _ _ _ rfl (hout.out.alloc _) (some ⟨W8.heap.size, 0, none⟩) 1 1 [.int .i64 Kc, .string acc] rfl rfl (.inr ⟨_, 0, rfl, fun j u hj => new_at _ _ _ _ (by simp) j u hj⟩) (fun u hu => by simp at hu; rcases hu with rfl | rfl <;> rfl) (by unfold maxLen; omega) (by omega) (by simp; omega) ?_; intro v5 w5 hv5 hg5 hk5 hl5)
                                    | fail)
                                  have hX9 := (hX8.out.below (((Grew.refl W8).alloc (#[.int .i64 Kc, .string acc] : Array Value) 83).below)).app hg5 (own_up hl2.out hv5)
                                  go_roundw
                                  case rel => first | exact ⟨j + 1, _, T3, hlj, by simp, (by have := hl2.out; simp; omega), hX9, hnext⟩ | ((repeat apply Exists.intro); exact ⟨⟨j + 1, _, T3, hlj, by simp, (by have := hl2.out; simp; omega), hX9, hnext⟩, rfl⟩)
                                  case measure => exact meas_up hlj
                                · have hR1 : Hid (R.1 = 5) := cont_err hgo.out (by rw [← ht, if_neg hn0]) (by decide)
                                  clear ht hV8 hz0
                                  go_wp2_with (fail)
                                  go_ret3
                                  exact hNo.out _ _ hR1.out (by decide) hbel.out
                        · have hR1 : Hid (R.1 = 5) := hstop hy
                          have hyi : Kc ≤ yn := by omega
                          have hbel : Hid (Below w.heap.size w (W7.alloc (.cells #[.int .i64 Kc, .int .i64 Zc, .int .i64 Pc, .string Bc] 82))) := hX0.out.rs.bel
                          clear hstop hgo
                          go_upto_region 22 with (fail)
                          go_quiet (fail)
                          go_wp2_with (fail)
                          go_ret3
                          exact hNo.out _ _ hR1.out (by decide) (drewN_below hbel.out _)
                    · have hji : ¬ (j : Int) < m := by omega
                      obtain rfl : j = m := by omega
                      have hdn := hAt.done hm.out.symm
                      clear hlj hj hAt
                      go_wp2_with (fail)
                      go_roundw
                      case rel => first | exact ⟨k + 1, L2, T2, hlt, by simp, by omega, hX.bare, hdn⟩ | ((repeat apply Exists.intro); exact ⟨⟨k + 1, L2, T2, hlt, by simp, by omega, hX.bare, hdn⟩, rfl⟩)
                      case measure => exact meas_up hlt
                · have hR1 : Hid (R.1 = 5) := by
                    show _ = _
                    rw [← hRk]
                    refine slt_form hE2 ?_
                    rw [hY]
                    unfold leafAt
                    rw [hi, hC]
                    cases C with
                    | nil => rfl
                    | cons c C =>
                      have : c = c0 := by simpa using hc0
                      simp [this, hky]
                  have hm1 : ¬ (m : Int) = 0 := by omega
                  have hm2 : ((m : Int) == 0) = false := by simpa using hm1
                  have hm3 : (0 : Int) < m := by omega
                  have hbs : bS ≠ s := fun e => row_off hX.sl hX.rs.blk (by decide) (by rw [e]; rfl)
                  have hky2 : (c0.key == K) = false := by simpa using hky
                  clear hX hRk hE2 hY hT2
                  go_upto_region 16 with (first
                    | (go_at_call 21; go_fit hLx.out; rintro e w5 ⟨rfl, hRS5, hB5⟩)
                    | (go_at_call 23; go_fit (hcell.out _); rintro e w6 ⟨a6, c6, rfl, hr6, g6⟩)
                    | fail)
                  have d0' := below_cell g6 (hB5.cell d0 hbs)
                  obtain ⟨bC, oC, rfl, hcs⟩ := (own_ces hr6).resolve_left (fun e => by rw [e] at hm; simp at hm; omega)
                  obtain ⟨e0, _⟩ := hcs 0 (by omega)
                  rw [hc0, Nat.zero_mul, Nat.add_zero] at e0
                  obtain ⟨K0, Z0, P0, B0⟩ := c0
                  dsimp only at e0 hky hky2
                  clear hcs hr6
                  go_quiet (fail)
                  go_wp2_with (fail)
                  go_ret3
                  exact hNo.out _ _ hR1.out (by decide) (drewN_below (hRS5.bel.trans (g6.mono hRS5.bel.size)) _)
          · have hR1 : Hid (R.1 = E2) := by
              show _ = _
              rw [← hRk, slt_err (by rw [hE2]; exact he)]
              exact hE2
            replace hLx : Hid (Calls Tryz.prog 21 #[.pointer (some ⟨d, 0, none⟩), .int .i64 Pg, .slice (some ⟨s, 0, none⟩) 200 200] W4 fun e w' => e = .returned (.tuple #[.string Y, .int .i64 E2]) ∧ RS w w' s ld (seeT ld Pg T) ∧ But (fun i => i = s) W4 w') := hLx
            clear hX hRk hE2 hY hcell
            go_wp2_with (first
              | (go_at_call 21; go_fit hLx.out; rintro e w5 ⟨rfl, hRS5, _⟩)
              | fail)
            go_ret3
            exact hNo.out _ _ hR1.out he hRS5.bel
        · have hki : ¬ (k : Int) < n := by omega
          obtain rfl : k = n := by omega
          have hR0 : Hid (R = (0, L, T)) := by
            show _ = _
            rw [← hRk, List.drop_of_length_le (by rw [hn.out]; exact Nat.le_refl _)]
            rfl
          clear hRk hlt hk hLk hNo
          obtain ⟨iw, zw, j1, j2, j3, j4, j5⟩ := info_rwri
          go_wp2_with (fail)
          go_loopw [27, 28] (fun vw i wr => ∃ x : Nat, x ≤ 200 ∧ i = .int .i64 (x : Int) ∧ XR w wr s ld T u7 L (.slice aS k cS) S (.slice none 0 0) [] ∧ wr.ownsRow w.heap.size 86 2 vw (preW ld T x).length (prsV (preW ld T x))) (fun _ i _ => 200 - (intOf i).toNat)
          case atStart => exact ⟨0, Nat.zero_le _, rfl, hX, World.ownsRow_nil _ _ _ _⟩
          case round =>
            clear hX
            obtain ⟨x, hx, rfl, hX, hrw⟩ := hrel
            obtain ⟨W5, rfl⟩ : ∃ W, W = wr := ⟨_, rfl⟩
            by_cases hlx : x < 200
            · have hxi : (x : Int) < 200 := by omega
              have hc := hX.rs.cell hlx
              have hok := hX.rs.ok (x : Int)
              have hup := preW_up ld T x
              obtain ⟨pw, hpw⟩ : ∃ p, (preW ld T x).length = p := ⟨_, rfl⟩
              have hpx := preW_len ld T x
              rw [hpw] at hpx hrw
              unfold seenV at hc
              by_cases hT : T.contains (x : Int) = true
              · rw [if_pos hT] at hc hup
                have hsz := hL.out.sz x (hok (by simpa using hT))
                generalize (ld (x : Int)).1 = B at *
                have hne : B.toList.isEmpty = false := by
                  rw [ByteArray.toList_eq]
                  cases h : B.data.toList with
                  | nil =>
                    have : B.data.toList.length = 128 := hsz
                    rw [h] at this
                    cases this
                  | cons _ _ => rfl
                have hwl : w.heap.size ≤ W5.heap.size := hX.rs.bel.size
                replace hX : Hid (XR w W5 s ld T u7 L (.slice aS k cS) S (.slice none 0 0) []) := hX
                replace hrw : Hid (W5.ownsRow w.heap.size 86 2 u27 pw (prsV (preW ld T x))) := hrw
                clear hok hT
                go_wp2_with (first
                  | (at_builtin; refine wpList_app _ rfl (.tmp 190) (.tmp 197) 37 rfl w.heap.size 86 iw zw 2 24 Tryz.underlying37 j1 j2 j4 j5 j3 (by decide) _ pw _ rfl (hrw.out.alloc _) (some ⟨W5.heap.size, 0, none⟩) 1 1 [.int .i64 (x : Int), .string B] rfl rfl (.inr ⟨_, 0, rfl, fun j u hj => new_at _ _ _ _ (by simp) j u hj⟩) (fun u hu => by simp at hu; rcases hu with rfl | rfl <;> rfl) (by unfold maxLen; omega) (by omega) (by simp; omega) ?_; intro v5 w5 hv5 hg5 hk5 hl5)
                  | fail)
                have hX9 := (hX.out.below (((Grew.refl W5).alloc (#[.int .i64 (x : Int), .string B] : Array Value) 86).below)).beside (hrw.out.alloc _) hg5
                have hrow := own_up hpw hv5
                go_roundw
                case rel => first | exact ⟨x + 1, hlx, by simp, hX9, by rw [hup]; exact hrow⟩ | ((repeat apply Exists.intro); exact ⟨⟨x + 1, hlx, by simp, hX9, by rw [hup]; exact hrow⟩, rfl⟩)
                case measure => exact meas_up hlx
              · rw [if_neg hT] at hc hup
                replace hX : Hid (XR w W5 s ld T u7 L (.slice aS k cS) S (.slice none 0 0) []) := hX
                replace hrw : Hid (W5.ownsRow w.heap.size 86 2 u27 pw (prsV (preW ld T x))) := hrw
                clear hok hpx hT
                go_wp2_with (fail)
                go_roundw
                case rel => first | exact ⟨x + 1, hlx, by simp, hX.out, by rw [hup, hpw]; exact hrw.out⟩ | ((repeat apply Exists.intro); exact ⟨⟨x + 1, hlx, by simp, hX.out, by rw [hup, hpw]; exact hrw.out⟩, rfl⟩)
                case measure => exact meas_up hlx
            · have hxi : ¬ (x : Int) < 200 := by omega
              obtain rfl : x = 200 := by omega
              have hEnd : RReadE w W5 ld R (.returned (.tuple #[u7, u27, .int .i64 0])) := by
                rw [hR0.out]
                exact ⟨fun _ => ⟨_, _, rfl, hX.out, hrw⟩, fun e => absurd rfl e, hX.rs.bel⟩
              replace hEnd : Hid _ := hEnd
              clear hX hrw
              go_wp2_with (fail)
              go_ret3
              exact hEnd.out
  · have hR1 : Hid (R.1 = E) := by
      show _ = _
      rw [← hR]
      unfold rdM
      rw [hE, if_pos he]
    replace hL0 : Hid (Calls Tryz.prog 21 #[.pointer (some ⟨d, 0, none⟩), .int .i64 root, .slice (some ⟨s, 0, none⟩) 200 200] w1 fun e w' => e = .returned (.tuple #[.string X, .int .i64 E]) ∧ RS w w' s ld (seeT ld root []) ∧ But (fun i => i = s) w1 w') := hL0
    clear hLk hR hL hX hE h1
    go_enter Tryz.func12, Tryz.ntmps12
    go_wp2_with (first
      | (go_at_call 21; go_fit hL0.out; rintro e w2 ⟨rfl, hRS, _⟩)
      | fail)
    go_ret3
    exact hNo.out _ _ hR1.out he hRS.bel
end Go.Proofs.YtbkkhafckkndfaaGreat
