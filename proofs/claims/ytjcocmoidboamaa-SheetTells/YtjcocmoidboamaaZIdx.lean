/-
  The document's own Index: slots in memory, as a page.
-/
import Derived.Test.YtjcocmoidboamaaZRef
namespace Go.Proofs.Ytjcocmoidboamaa
open Go Go.RowKit

/-- Slots that lie in memory. -/
def SlotAt (w : World) (b o : Nat) (s : Sl) : Prop := w.cell? ⟨b, o, none⟩ = some (.int .i64 s.key) ∧ w.cell? ⟨b, o + 1, none⟩ = some (.int .i64 s.page)
theorem SlotAt.grew {w w' : World} {b o : Nat} {s : Sl} (h : SlotAt w b o s) (g : Grew w w') : SlotAt w' b o s := ⟨g.cell h.1, g.cell h.2⟩
def SlotsAt (w : World) (a : Option Addr) (S : List Sl) : Prop := S = [] ∨ ∃ b off, a = some ⟨b, off, none⟩ ∧ ∀ i, i < S.length → SlotAt w b (off + i * 2) (S.getD i ⟨0, 0⟩)
theorem zmeas0 {n : Nat} (h : 0 < n) : n - (intOf (Value.int .i64 1)).toNat < n - (intOf (Value.int .i64 0)).toNat := by
  simp only [intOf]; omega
theorem zmeas1 {p n : Nat} (h : p + 1 < n) : n - (intOf (Value.int .i64 ((p : Int) + 1 + 1))).toNat < n - (intOf (Value.int .i64 ((p : Int) + 1))).toNat := by
  simp only [intOf]; omega
def idxV (S : List Sl) : ByteArray := if idxOk S then txt (idxL S) else ByteArray.empty
set_option maxRecDepth 10000 in
set_option maxHeartbeats 4000000 in
theorem refindex_any (S : List Sl) (a : Option Addr) (cap : Nat) (w : World) (hS : SlotsAt w a S) (hm : S.length < 1000000) : Calls Try.prog 11 #[.slice a S.length cap] w fun e w' => e = .returned (.tuple #[.string (idxV S), .bool (idxOk S)]) ∧ Grew w w' := by
  by_cases hn : 21 < S.length
  · have hni : (21 : Int) < S.length := by omega
    unfold idxV
    rw [idx_long hn, if_neg (by decide)]
    clear hn hS
    go_enter Try.func11, Try.ntmps11
    go_wp2
    go_ret2
    exact ⟨rfl, Grew.refl _⟩
  have hni : ¬ (21 : Int) < S.length := by omega
  obtain ⟨n, hN⟩ : ∃ n, S.length = n := ⟨_, rfl⟩
  have h1 : Hid (∀ W, Calls Try.prog 33 #[.int .i64 (n : Int), .int .i64 1] W fun e w' => e = .returned (.string (txt (digs n 1))) ∧ Grew W w') := fun W => refbig_any n 1 (by omega) (by omega) W
  have hfill : Hid (∀ W, _) := fun W => reffill_any (idxH S n) (by rw [idxH_len S n (by omega)]; omega) W
  have hstart : Hid ((⟨#[73]⟩ : ByteArray) ++ txt (digs n 1) = txt (idxH S 0)) := by
    show _ = _
    rw [show (⟨#[73]⟩ : ByteArray) = txt [73] from rfl, txt_append, ← hN]
    simp [idxH]
  have hAll : Hid ((∀ k, k < n → slOk S k = true) → idxV S = txt (padL (idxH S n)) ∧ idxOk S = true) := fun h => by
    have := idx_yes (by omega) (fun k hk => h k (by omega))
    refine ⟨?_, this⟩
    unfold idxV idxL
    rw [this, if_pos rfl, hN]
  have hNone : Hid (∀ k, k < n → slOk S k = false → Ending.returned (.tuple #[.string ByteArray.empty, .bool false]) = Ending.returned (.tuple #[.string (idxV S), .bool (idxOk S)])) := fun k hk h => by
    unfold idxV
    rw [idx_no (by omega) h, if_neg (by decide)]
  have z0 : ¬ 9223372036854775807 < (⟨#[73]⟩ : ByteArray).size + (txt (digs n 1)).size := by rw [txt_size, digs_len]; decide
  have hSz : Hid (∀ k, k ≤ n → (txt (idxH S k)).size ≤ 200) := fun k hk => by rw [txt_size, idxH_len S k (by omega)]; omega
  rw [hN]
  have hni : ¬ (21 : Int) < n := by omega
  have hNN : Hid (S.length = n) := hN
  have hn21 : n ≤ 21 := by omega
  clear hN hn hm
  go_enter Try.func11, Try.ntmps11
  go_wp2_with (first | (go_at_call 33; go_fit (h1.out _); rintro e w1 ⟨rfl, G0⟩) | fail)
  rw [hstart.out]
  go_loopw [4, 5] (fun s i wr => ∃ k : Nat, k ≤ n ∧ i = .int .i64 k ∧ s = .string (txt (idxH S k)) ∧ (∀ j, j < k → slOk S j = true) ∧ Grew w wr) (fun _ i _ => n - (intOf i).toNat)
  case atStart => exact ⟨0, by omega, rfl, rfl, fun j hj => absurd hj (by omega), G0⟩
  case round =>
    clear G0
    obtain ⟨k, hk, rfl, rfl, hok, hG⟩ := hrel
    by_cases hlt : k < n
    · have hki : (k : Int) < n := by omega
      obtain ⟨b, off, rfl, hcs⟩ := hS.resolve_left (fun e => by have := hNN.out; rw [e] at this; simp at this; omega)
      have hb := hcs k (by rw [hNN.out]; exact hlt)
      obtain ⟨K, hK0⟩ : ∃ K, (S.getD k ⟨0, 0⟩).key = K := ⟨_, rfl⟩
      obtain ⟨Q, hQ0⟩ : ∃ Q, (S.getD k ⟨0, 0⟩).page = Q := ⟨_, rfl⟩
      have hK : Hid (∀ W, _) := fun W => refkey_any K W
      have hP : Hid (∀ W, _) := fun W => refpage_any Q W
      have hup0 := idxH_up S k (by rw [hNN.out]; exact hlt)
      rw [hK0, hQ0] at hup0
      have hy := hSz.out k hk
      have e0 := (hb.grew hG).1
      have e1 := (hb.grew hG).2
      rw [hK0] at e0
      rw [hQ0] at e1
      unfold SlotAt at hb
      rw [hK0, hQ0] at hb
      replace hb : SlotAt w b (off + k * 2) ⟨K, Q⟩ := hb
      cases hkb : keyB K with
      | false =>
        rw [hkb] at hK
        have HF : Hid _ := hNone.out k hlt (by unfold slOk; rw [hK0, hkb]; rfl)
        clear hup0 hb hcs hok
        go_upto_region 7 with (fail)
        go_quiet (first
          | (go_at_call 34; exact Calls.quiet_of_same (hK.out _))
          | (go_at_call 35; exact Calls.quiet_of_same (hP.out _))
          | fail)
        go_wp2_with (fail)
        go_ret2
        exact ⟨HF.out, hG.drewN _⟩
      | true =>
        rw [hkb] at hK
        cases hpb : pageB Q with
        | false =>
          rw [hpb] at hP
          have HF : Hid _ := hNone.out k hlt (by unfold slOk; rw [hK0, hQ0, hkb, hpb]; rfl)
          clear hup0 hb hcs hok
          go_upto_region 7 with (fail)
          go_quiet (first
            | (go_at_call 34; exact Calls.quiet_of_same (hK.out _))
            | (go_at_call 35; exact Calls.quiet_of_same (hP.out _))
            | fail)
          go_wp2_with (fail)
          go_ret2
          exact ⟨HF.out, hG.drewN _⟩
        | true =>
          rw [hpb] at hP
          have hk1 := (keyB_iff K).1 hkb
          have hp1 := (pageB_iff Q).1 hpb
          have h4 : Hid (∀ W, Calls Try.prog 33 #[.int .i64 K, .int .i64 4] W fun e w' => e = .returned (.string (txt (digs K.toNat 4))) ∧ Grew W w') := fun W => by
            have := refbig_any K.toNat 4 (by omega) (by omega) W
            rw [show ((K.toNat : Nat) : Int) = K by omega] at this
            exact this
          have h2 : Hid (∀ W, Calls Try.prog 33 #[.int .i64 Q, .int .i64 2] W fun e w' => e = .returned (.string (txt (digs Q.toNat 2))) ∧ Grew W w') := fun W => by
            have := refbig_any Q.toNat 2 (by omega) (by omega) W
            rw [show ((Q.toNat : Nat) : Int) = Q by omega] at this
            exact this
          have hup : Hid (txt (idxH S k) ++ txt (digs K.toNat 4) ++ txt (digs Q.toNat 2) = txt (idxH S (k + 1))) := by
            show _ = _
            rw [txt_append, txt_append, hup0]
          have y4 : (txt (digs K.toNat 4)).size = 4 := by rw [txt_size, digs_len]
          have y2 : (txt (digs Q.toNat 2)).size = 2 := by rw [txt_size, digs_len]
          have Z1 : Hid (¬ 9223372036854775807 < (txt (idxH S k)).size + 4 ∧ ¬ 9223372036854775807 < (txt (idxH S k)).size + 4 + 2 ∧ ¬ 9223372036854775807 < (txt (idxH S k)).size + 6) := (by omega : ¬ 9223372036854775807 < (txt (idxH S k)).size + 4 ∧ ¬ 9223372036854775807 < (txt (idxH S k)).size + 4 + 2 ∧ ¬ 9223372036854775807 < (txt (idxH S k)).size + 6)
          clear hup0 hk1 hp1 hy
          cases k with
          | zero =>
            have hcur : Hid (∀ j, j < 0 + 1 → slOk S j = true) := fun j hj => by
              obtain rfl : j = 0 := by omega
              rw [slOk_zero, hK0, hQ0, hkb, hpb]
              rfl
            have e0 : wr.cell? ⟨b, off, none⟩ = some (.int .i64 K) := by simpa using e0
            have e1 : wr.cell? ⟨b, off + 1, none⟩ = some (.int .i64 Q) := by simpa using e1
            replace hb : SlotAt w b off ⟨K, Q⟩ := by simpa using hb
            have ep : True := trivial
            clear hcs hok
            go_upto_region 7 with (fail)
            go_quiet (first
              | (go_at_call 34; exact Calls.quiet_of_same (hK.out _))
              | (go_at_call 35; exact Calls.quiet_of_same (hP.out _))
              | fail)
            go_upto_region 9 with (fail)
            have hW : Grew w (wr.drewN nq) := hG.drewN _
            have d0 := (hb.grew hW).1
            have d1 := (hb.grew hW).2
            clear hG e0 e1 ep
            generalize wr.drewN nq = W at *
            have qSza : Hid (∀ w', Grew W w' → (w'.cell? ⟨b, off, none⟩ = some (.int .i64 K) ∧ w'.cell? ⟨b, off + 1, none⟩ = some (.int .i64 Q))) := fun w' g => ⟨g.cell d0, g.cell d1⟩
            refine kept_region W (by kernel_rfl) (by kernel_rfl) ?_
            refine kept_want ?vza0 (by rfl) ?yza0 ?rza0
            case yza0 => (intro w' hG; obtain ⟨q0, q1⟩ := qSza.out w' hG; clear hG; obtain ⟨z1, z2, z3⟩ := Z1.out; go_simp; try (with_reducible rfl))
            simp only [Act.put, List.setIfInBounds_toArray, List.set_cons_zero, List.set_cons_succ]
            refine kept_want ?vza1 (by rfl) ?yza1 ?rza1
            case yza1 => (intro w' hG; obtain ⟨q0, q1⟩ := qSza.out w' hG; clear hG; obtain ⟨z1, z2, z3⟩ := Z1.out; go_simp; try (with_reducible rfl))
            simp only [Act.put, List.setIfInBounds_toArray, List.set_cons_zero, List.set_cons_succ]
            refine kept_want ?vza2 (by rfl) ?yza2 ?rza2
            case yza2 => (intro w' hG; obtain ⟨q0, q1⟩ := qSza.out w' hG; clear hG; obtain ⟨z1, z2, z3⟩ := Z1.out; go_simp; try (with_reducible rfl))
            simp only [Act.put, List.setIfInBounds_toArray, List.set_cons_zero, List.set_cons_succ]
            refine kept_want ?vza3 (by rfl) ?yza3 ?rza3
            case yza3 => (intro w' hG; obtain ⟨q0, q1⟩ := qSza.out w' hG; clear hG; obtain ⟨z1, z2, z3⟩ := Z1.out; go_simp; try (with_reducible rfl))
            simp only [Act.put, List.setIfInBounds_toArray, List.set_cons_zero, List.set_cons_succ]
            refine kept_want ?vza4 (by rfl) ?yza4 ?rza4
            case yza4 => (intro w' hG; obtain ⟨q0, q1⟩ := qSza.out w' hG; clear hG; obtain ⟨z1, z2, z3⟩ := Z1.out; go_simp; try (with_reducible rfl))
            simp only [Act.put, List.setIfInBounds_toArray, List.set_cons_zero, List.set_cons_succ]
            refine kept_want ?vza5 (by rfl) ?yza5 ?rza5
            case yza5 => (intro w' hG; obtain ⟨q0, q1⟩ := qSza.out w' hG; clear hG; obtain ⟨z1, z2, z3⟩ := Z1.out; go_simp; try (with_reducible rfl))
            simp only [Act.put, List.setIfInBounds_toArray, List.set_cons_zero, List.set_cons_succ]
            refine kept_want ?vza6 (by rfl) ?yza6 ?rza6
            case yza6 => (intro w' hG; go_simp; refine (h4.out _).mono ?_; rintro e w'' ⟨rfl, U⟩; refine ⟨?_, hG.trans U⟩; with_reducible rfl)
            simp only [Act.put, List.setIfInBounds_toArray, List.set_cons_zero, List.set_cons_succ]
            refine kept_want ?vza7 (by rfl) ?yza7 ?rza7
            case yza7 => (intro w' hG; obtain ⟨q0, q1⟩ := qSza.out w' hG; clear hG; obtain ⟨z1, z2, z3⟩ := Z1.out; go_simp; try (with_reducible rfl))
            simp only [Act.put, List.setIfInBounds_toArray, List.set_cons_zero, List.set_cons_succ]
            refine kept_want ?vza8 (by rfl) ?yza8 ?rza8
            case yza8 => (intro w' hG; obtain ⟨q0, q1⟩ := qSza.out w' hG; clear hG; obtain ⟨z1, z2, z3⟩ := Z1.out; go_simp; try (with_reducible rfl))
            simp only [Act.put, List.setIfInBounds_toArray, List.set_cons_zero, List.set_cons_succ]
            refine kept_want ?vza9 (by rfl) ?yza9 ?rza9
            case yza9 => (intro w' hG; obtain ⟨q0, q1⟩ := qSza.out w' hG; clear hG; obtain ⟨z1, z2, z3⟩ := Z1.out; go_simp; try (with_reducible rfl))
            simp only [Act.put, List.setIfInBounds_toArray, List.set_cons_zero, List.set_cons_succ]
            refine kept_want ?vza10 (by rfl) ?yza10 ?rza10
            case yza10 => (intro w' hG; obtain ⟨q0, q1⟩ := qSza.out w' hG; clear hG; obtain ⟨z1, z2, z3⟩ := Z1.out; go_simp; try (with_reducible rfl))
            simp only [Act.put, List.setIfInBounds_toArray, List.set_cons_zero, List.set_cons_succ]
            refine kept_want ?vza11 (by rfl) ?yza11 ?rza11
            case yza11 => (intro w' hG; obtain ⟨q0, q1⟩ := qSza.out w' hG; clear hG; obtain ⟨z1, z2, z3⟩ := Z1.out; go_simp; try (with_reducible rfl))
            simp only [Act.put, List.setIfInBounds_toArray, List.set_cons_zero, List.set_cons_succ]
            refine kept_want ?vza12 (by rfl) ?yza12 ?rza12
            case yza12 => (intro w' hG; obtain ⟨q0, q1⟩ := qSza.out w' hG; clear hG; obtain ⟨z1, z2, z3⟩ := Z1.out; go_simp; try (with_reducible rfl))
            simp only [Act.put, List.setIfInBounds_toArray, List.set_cons_zero, List.set_cons_succ]
            refine kept_want ?vza13 (by rfl) ?yza13 ?rza13
            case yza13 => (intro w' hG; go_simp; refine (h2.out _).mono ?_; rintro e w'' ⟨rfl, U⟩; refine ⟨?_, hG.trans U⟩; with_reducible rfl)
            simp only [Act.put, List.setIfInBounds_toArray, List.set_cons_zero, List.set_cons_succ]
            refine kept_want ?vza14 (by rfl) ?yza14 ?rza14
            case yza14 => (intro w' hG; obtain ⟨q0, q1⟩ := qSza.out w' hG; clear hG; obtain ⟨z1, z2, z3⟩ := Z1.out; go_simp; try (with_reducible rfl))
            simp only [Act.put, List.setIfInBounds_toArray, List.set_cons_zero, List.set_cons_succ]
            refine kept_want ?vza15 (by rfl) ?yza15 ?rza15
            case yza15 => (intro w' hG; obtain ⟨q0, q1⟩ := qSza.out w' hG; clear hG; obtain ⟨z1, z2, z3⟩ := Z1.out; go_simp; try (with_reducible rfl))
            simp only [Act.put, List.setIfInBounds_toArray, List.set_cons_zero, List.set_cons_succ]
            refine kept_nil ?_
            intro V hV
            clear qSza
            go_wp2_with (fail)
            refine ⟨⟨0 + 1, hlt, by simp, congrArg Value.string hup.out, hcur.out, hW.trans hV⟩, ?_⟩
            first | exact meas_up hlt | exact zmeas0 hlt | exact zmeas1 hlt
          | succ p =>
            have hpv := hcs p (by rw [hNN.out]; omega)
            obtain ⟨M, hM0⟩ : ∃ M, (S.getD p ⟨0, 0⟩).key = M := ⟨_, rfl⟩
            have ep := (hpv.grew hG).1
            rw [hM0] at ep
            have HW : Hid (wrap64 ((p : Int) + 1 - 1) = p ∧ wrap64 (p : Int) = p) := (⟨by unfold wrap64; omega, by unfold wrap64; omega⟩ : wrap64 ((p : Int) + 1 - 1) = p ∧ wrap64 (p : Int) = p)
            have hp0 : (0 : Int) < (p : Int) + 1 := by omega
            have hpn : (p : Int) < n := by omega
            have hp00 : (0 : Int) ≤ p := by omega
            have hp01 : (0 : Int) ≤ (p : Int) + 1 := by omega
            by_cases hlt2 : M < K
            · have hle : ¬ K ≤ M := by omega
              have hcur : Hid (∀ j, j < p + 1 + 1 → slOk S j = true) := fun j hj => by
                by_cases e : j = p + 1
                · subst e
                  rw [slOk_succ, hK0, hQ0, hM0, hkb, hpb]
                  simp [hlt2]
                · exact hok j (by omega)
              clear hcs hok hpv
              go_upto_region 7 with (fail)
              go_quiet (first
                | (go_at_call 34; exact Calls.quiet_of_same (hK.out _))
                | (go_at_call 35; exact Calls.quiet_of_same (hP.out _))
                | fail)
              go_upto_region 9 with (fail)
              have hW : Grew w (wr.drewN nq) := hG.drewN _
              have d0 := (hb.grew hW).1
              have d1 := (hb.grew hW).2
              clear hG e0 e1 ep
              generalize wr.drewN nq = W at *
              have qSzb : Hid (∀ w', Grew W w' → (w'.cell? ⟨b, off + (p + 1) * 2, none⟩ = some (.int .i64 K) ∧ w'.cell? ⟨b, off + (p + 1) * 2 + 1, none⟩ = some (.int .i64 Q))) := fun w' g => ⟨g.cell d0, g.cell d1⟩
              refine kept_region W (by kernel_rfl) (by kernel_rfl) ?_
              refine kept_want ?vzb0 (by rfl) ?yzb0 ?rzb0
              case yzb0 => (intro w' hG; obtain ⟨q0, q1⟩ := qSzb.out w' hG; clear hG; obtain ⟨z1, z2, z3⟩ := Z1.out; go_simp; try (with_reducible rfl))
              simp only [Act.put, List.setIfInBounds_toArray, List.set_cons_zero, List.set_cons_succ]
              refine kept_want ?vzb1 (by rfl) ?yzb1 ?rzb1
              case yzb1 => (intro w' hG; obtain ⟨q0, q1⟩ := qSzb.out w' hG; clear hG; obtain ⟨z1, z2, z3⟩ := Z1.out; go_simp; try (with_reducible rfl))
              simp only [Act.put, List.setIfInBounds_toArray, List.set_cons_zero, List.set_cons_succ]
              refine kept_want ?vzb2 (by rfl) ?yzb2 ?rzb2
              case yzb2 => (intro w' hG; obtain ⟨q0, q1⟩ := qSzb.out w' hG; clear hG; obtain ⟨z1, z2, z3⟩ := Z1.out; go_simp; try (with_reducible rfl))
              simp only [Act.put, List.setIfInBounds_toArray, List.set_cons_zero, List.set_cons_succ]
              refine kept_want ?vzb3 (by rfl) ?yzb3 ?rzb3
              case yzb3 => (intro w' hG; obtain ⟨q0, q1⟩ := qSzb.out w' hG; clear hG; obtain ⟨z1, z2, z3⟩ := Z1.out; go_simp; try (with_reducible rfl))
              simp only [Act.put, List.setIfInBounds_toArray, List.set_cons_zero, List.set_cons_succ]
              refine kept_want ?vzb4 (by rfl) ?yzb4 ?rzb4
              case yzb4 => (intro w' hG; obtain ⟨q0, q1⟩ := qSzb.out w' hG; clear hG; obtain ⟨z1, z2, z3⟩ := Z1.out; go_simp; try (with_reducible rfl))
              simp only [Act.put, List.setIfInBounds_toArray, List.set_cons_zero, List.set_cons_succ]
              refine kept_want ?vzb5 (by rfl) ?yzb5 ?rzb5
              case yzb5 => (intro w' hG; obtain ⟨q0, q1⟩ := qSzb.out w' hG; clear hG; obtain ⟨z1, z2, z3⟩ := Z1.out; go_simp; try (with_reducible rfl))
              simp only [Act.put, List.setIfInBounds_toArray, List.set_cons_zero, List.set_cons_succ]
              refine kept_want ?vzb6 (by rfl) ?yzb6 ?rzb6
              case yzb6 => (intro w' hG; go_simp; refine (h4.out _).mono ?_; rintro e w'' ⟨rfl, U⟩; refine ⟨?_, hG.trans U⟩; with_reducible rfl)
              simp only [Act.put, List.setIfInBounds_toArray, List.set_cons_zero, List.set_cons_succ]
              refine kept_want ?vzb7 (by rfl) ?yzb7 ?rzb7
              case yzb7 => (intro w' hG; obtain ⟨q0, q1⟩ := qSzb.out w' hG; clear hG; obtain ⟨z1, z2, z3⟩ := Z1.out; go_simp; try (with_reducible rfl))
              simp only [Act.put, List.setIfInBounds_toArray, List.set_cons_zero, List.set_cons_succ]
              refine kept_want ?vzb8 (by rfl) ?yzb8 ?rzb8
              case yzb8 => (intro w' hG; obtain ⟨q0, q1⟩ := qSzb.out w' hG; clear hG; obtain ⟨z1, z2, z3⟩ := Z1.out; go_simp; try (with_reducible rfl))
              simp only [Act.put, List.setIfInBounds_toArray, List.set_cons_zero, List.set_cons_succ]
              refine kept_want ?vzb9 (by rfl) ?yzb9 ?rzb9
              case yzb9 => (intro w' hG; obtain ⟨q0, q1⟩ := qSzb.out w' hG; clear hG; obtain ⟨z1, z2, z3⟩ := Z1.out; go_simp; try (with_reducible rfl))
              simp only [Act.put, List.setIfInBounds_toArray, List.set_cons_zero, List.set_cons_succ]
              refine kept_want ?vzb10 (by rfl) ?yzb10 ?rzb10
              case yzb10 => (intro w' hG; obtain ⟨q0, q1⟩ := qSzb.out w' hG; clear hG; obtain ⟨z1, z2, z3⟩ := Z1.out; go_simp; try (with_reducible rfl))
              simp only [Act.put, List.setIfInBounds_toArray, List.set_cons_zero, List.set_cons_succ]
              refine kept_want ?vzb11 (by rfl) ?yzb11 ?rzb11
              case yzb11 => (intro w' hG; obtain ⟨q0, q1⟩ := qSzb.out w' hG; clear hG; obtain ⟨z1, z2, z3⟩ := Z1.out; go_simp; try (with_reducible rfl))
              simp only [Act.put, List.setIfInBounds_toArray, List.set_cons_zero, List.set_cons_succ]
              refine kept_want ?vzb12 (by rfl) ?yzb12 ?rzb12
              case yzb12 => (intro w' hG; obtain ⟨q0, q1⟩ := qSzb.out w' hG; clear hG; obtain ⟨z1, z2, z3⟩ := Z1.out; go_simp; try (with_reducible rfl))
              simp only [Act.put, List.setIfInBounds_toArray, List.set_cons_zero, List.set_cons_succ]
              refine kept_want ?vzb13 (by rfl) ?yzb13 ?rzb13
              case yzb13 => (intro w' hG; go_simp; refine (h2.out _).mono ?_; rintro e w'' ⟨rfl, U⟩; refine ⟨?_, hG.trans U⟩; with_reducible rfl)
              simp only [Act.put, List.setIfInBounds_toArray, List.set_cons_zero, List.set_cons_succ]
              refine kept_want ?vzb14 (by rfl) ?yzb14 ?rzb14
              case yzb14 => (intro w' hG; obtain ⟨q0, q1⟩ := qSzb.out w' hG; clear hG; obtain ⟨z1, z2, z3⟩ := Z1.out; go_simp; try (with_reducible rfl))
              simp only [Act.put, List.setIfInBounds_toArray, List.set_cons_zero, List.set_cons_succ]
              refine kept_want ?vzb15 (by rfl) ?yzb15 ?rzb15
              case yzb15 => (intro w' hG; obtain ⟨q0, q1⟩ := qSzb.out w' hG; clear hG; obtain ⟨z1, z2, z3⟩ := Z1.out; go_simp; try (with_reducible rfl))
              simp only [Act.put, List.setIfInBounds_toArray, List.set_cons_zero, List.set_cons_succ]
              refine kept_nil ?_
              intro V hV
              clear qSzb
              go_wp2_with (fail)
              refine ⟨⟨p + 1 + 1, hlt, by simp, congrArg Value.string hup.out, hcur.out, hW.trans hV⟩, ?_⟩
              first | exact meas_up hlt | exact zmeas0 hlt | exact zmeas1 hlt
            · have hle : K ≤ M := by omega
              have HF : Hid _ := hNone.out (p + 1) hlt (by rw [slOk_succ, hK0, hQ0, hM0, hkb, hpb]; simp [hlt2])
              clear hcs hok hpv hb
              go_upto_region 7 with (fail)
              go_quiet (first
                | (go_at_call 34; exact Calls.quiet_of_same (hK.out _))
                | (go_at_call 35; exact Calls.quiet_of_same (hP.out _))
                | fail)
              go_wp2_with (fail)
              go_ret2
              exact ⟨HF.out, hG.drewN _⟩
    · have hki : ¬ (k : Int) < n := by omega
      obtain rfl : k = n := by omega
      obtain ⟨v1, v2⟩ := hAll.out hok
      have hf := hfill
      replace v1 : Hid (idxV S = txt (padL (idxH S k))) := v1
      replace v2 : Hid (idxOk S = true) := v2
      clear hok hAll
      go_wp2_with (first | (go_at_call 36; go_fit (hf.out _); rintro e w1 ⟨rfl, G⟩) | fail)
      go_ret2
      exact ⟨by rw [v1.out, v2.out]; rfl, hG.trans G⟩
end Go.Proofs.Ytjcocmoidboamaa
