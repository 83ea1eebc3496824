/-
  What package platter's Settle does at a platter that lies in memory.
-/
import Derived.Test.YtedhgejkobdihaaTStore
import Derived.Test.YtedhgejkobdihaaTBox
namespace Go.Proofs.Ytedhgejkobdihaa
open Go Go.RowKit

theorem range_tail {w : World} {q o : Nat} {v : Value} {cs : List Value} (h : w.rangeAt q o (v :: cs)) : w.rangeAt q (o + 1) cs := fun j u hj => by
  have := h (j + 1) u hj
  rw [show o + (j + 1) = o + 1 + j by omega] at this
  exact this
theorem meas (m k : Nat) (h : k < m) (e : wrap64 ((k : Int) + 1) = (k : Int) + 1) : m - (intOf (Value.int IntKind.i64 (wrap64 ((k : Int) + 1)))).toNat < m - (intOf (Value.int IntKind.i64 (k : Int))).toNat := by
  rw [e]
  show m - ((k : Int) + 1).toNat < m - (k : Int).toNat
  omega
section
variable {w : World} {base b g1 c1 g2 c2 c3 : Nat} {a3 : Option Addr} {P : Pl}
set_option maxRecDepth 10000 in
set_option maxHeartbeats 4000000 in
theorem settle_any (h : PAt w base b g1 c1 g2 c2 a3 c3 P) : Calls Try.prog 11 #[.pointer (some ⟨b, 0, none⟩)] w fun e w' => e = .returned (.int .i64 (settleP P).1) ∧ Stored w base b g1 c1 g2 c2 a3 (settleP P).2 w' := by
  have k2 := h.k2
  go_enter Try.func11, Try.ntmps11
  by_cases hd : P.dead = true
  · have e : settleP P = (7, P) := by unfold settleP; rw [if_pos hd]
    rw [e]
    go_wp2_with (first | (go_at_call 12; go_fit (halted_any h); rintro e w' ⟨rfl, rfl⟩; rw [hd]))
    go_ret
    exact ⟨rfl, a3, c3, h, But.refl _ _, fun i e => .inl e⟩
  · have hd' : P.dead = false := by simpa using hd
    have e : settleP P = (0, { P with last := settleL P.float P.last, float := [] }) := by unfold settleP; rw [if_neg hd]
    rw [e]
    clear e
    go_wp2_with (first | (go_at_call 12; go_fit (halted_any h); rintro e w' ⟨rfl, e⟩; have e := e.symm; subst e; rw [hd']))
    go_loopw [12] (fun i wr => ∃ (k : Nat) (L : List ByteArray), k ≤ P.float.length ∧ i = .int .i64 k ∧ PAt wr base b g1 c1 g2 c2 a3 c3 ⟨P.now, L, P.float, P.left, P.dead⟩ ∧ But (foot b g1 g2 a3) w wr ∧ settleL (P.float.drop k) L = settleL P.float P.last) (fun i _ => P.float.length - (intOf i).toNat)
    case atStart => exact ⟨0, P.last, by omega, rfl, h, But.refl _ _, rfl⟩
    case round =>
      obtain ⟨k, L, hk, rfl, hP, hB, hs⟩ := hrel
      have HS : Hid (settleL (P.float.drop k) L = settleL P.float P.last) := hs
      have HB : Hid (But (foot b g1 g2 a3) w wr) := hB
      have HP : Hid (PAt wr base b g1 c1 g2 c2 a3 c3 ⟨P.now, L, P.float, P.left, P.dead⟩) := hP
      clear hs hB hP k2
      by_cases hlt : k < P.float.length
      · have hi : (k : Int) < (P.float.length : Int) := by omega
        have hw : wrap64 ((k : Int) + 1) = k + 1 := IntWalk.wrap64_in _ ⟨by omega, by have := h.ok.many; omega⟩
        obtain ⟨x, hx⟩ : ∃ x, P.float[k]? = some x := ⟨_, List.getElem?_eq_getElem hlt⟩
        obtain ⟨hx1, hx2⟩ := h.ok.float x (List.mem_of_getElem? hx)
        obtain ⟨g3, rfl, hr⟩ := HP.out.wr (P := ⟨P.now, L, P.float, P.left, P.dead⟩) hx
        have hx : Hid (P.float[k]? = some x) := hx
        have hxi : (x.n : Int) < P.now.length := by omega
        have hl : (wrV x).length = 129 := by rw [wrV_len, hx2]
        obtain ⟨bt, br, bg⟩ := boxed wr (wrV x) hl
        have hG : Hid (Grew wr ((wr.alloc (.cells zeroW.toArray 57)).setCells wr.heap.size 0 (wrV x))) := bg
        have hbr : Hid (((wr.alloc (.cells zeroW.toArray 57)).setCells wr.heap.size 0 (wrV x)).rangeAt wr.heap.size 0 (wrV x)) := br
        have hst : (storeCells ⟨wr.heap.size, 0, none⟩ (wrV x)).run Try.prog (wr.alloc (.cells zeroW.toArray 57)) = .ok () ((wr.alloc (.cells zeroW.toArray 57)).setCells wr.heap.size 0 (wrV x)) := by
          have := run_storeCells_cells (P := Try.prog) wr.heap.size 0 (wrV x) 0 (wr.alloc (.cells zeroW.toArray 57)) (by rw [hl]; exact fun j hj => by have := (bt j hj).1; simpa using this) (by rw [hl]; exact fun j hj => by simp) (wrV_one x)
          rw [Nat.zero_add] at this; exact this
        clear bg br bt
        go_upto_region 6 with (first
          | (refine wpList_load_mid rfl 57 (.tmp 14) rfl g3 (k * 129) rfl (wrV x) _ hr Try.underlying57 rfl (by rw [hl]; kernel_rfl) ?_)
          | (refine wpList_allocWr rfl rfl ?_)
          | fail)
        obtain ⟨q, hq⟩ : ∃ q, q = wr.heap.size := ⟨_, rfl⟩
        rw [← hq] at hG hbr ⊢
        have hPW : Hid (PAt ((wr.alloc (.cells zeroW.toArray 57)).setCells q 0 (wrV x)) base b g1 c1 g2 c2 (some ⟨g3, 0, none⟩) c3 ⟨P.now, L, P.float, P.left, P.dead⟩) := HP.out.but (S := fun _ => False) (Grew.but hG.out) (fun _ _ e => e)
        have hqW : Hid (((wr.alloc (.cells zeroW.toArray 57)).setCells q 0 (wrV x)).rangeAt q 0 (wrV x)) := hbr
        generalize (wr.alloc (.cells zeroW.toArray 57)).setCells q 0 (wrV x) = W at *
        clear hst hbr hr hq
        refine lat_region (A := (fun _ => True)) (S := (fun w' => PAt w' base b g1 c1 g2 c2 (some ⟨g3, 0, none⟩) c3 ⟨P.now, L, P.float, P.left, P.dead⟩ ∧ w'.rangeAt q 0 (wrV x))) [9] (by kernel_rfl) ?_ (fun hH0 => ?_)
        · exact ⟨trivial, hPW.out.but (S := fun _ => False) (Grew.but (Grew.refl _).drew) (fun _ _ e => e), by simpa using hqW.out⟩
        refine lat_free (i := 0) (oi := { dst := some 16, op := Go.Op.move (Go.Operand.tmp 0), type := 24, pos := "platter.go:78", after := #[], guard := none }) (v := ?va1) rfl (by kernel_rfl) (by kernel_rfl) (by kernel_rfl) (by kernel_rfl) (fun _ _ _ h => h) (Or.inl ⟨by rfl, ?hya1⟩) ⟨hH0.1, fun _ => hH0.2⟩ ?resta1
        case hya1 => (intro w hAw; skip; go_simp; try (with_reducible rfl))
        simp only [Act.put, List.setIfInBounds_toArray, List.set_cons_zero, List.set_cons_succ]
        refine lat_free (i := 1) (oi := { dst := some 17, op := Go.Op.nilCheck (Go.Operand.tmp 16), type := 0, pos := "platter.go:78", after := #[{ on := 0, ground := Go.Ground.data }], guard := none }) (v := ?va2) rfl (by kernel_rfl) (by kernel_rfl) (by kernel_rfl) (by kernel_rfl) (fun _ _ _ h => h) (Or.inl ⟨by rfl, ?hya2⟩) ⟨hH0.1, fun _ => hH0.2⟩ ?resta2
        case hya2 => (intro w hAw; skip; go_simp; try (with_reducible rfl))
        simp only [Act.put, List.setIfInBounds_toArray, List.set_cons_zero, List.set_cons_succ]
        refine lat_free (i := 2) (oi := { dst := some 18, op := Go.Op.fieldAddr 50 (Go.Operand.tmp 17) 1, type := 0, pos := "platter.go:78", after := #[{ on := 1, ground := Go.Ground.data }], guard := none }) (v := ?va3) rfl (by kernel_rfl) (by kernel_rfl) (by kernel_rfl) (by kernel_rfl) (fun _ _ _ h => h) (Or.inl ⟨by rfl, ?hya3⟩) ⟨hH0.1, fun _ => hH0.2⟩ ?resta3
        case hya3 => (intro w hAw; skip; go_simp; try (with_reducible rfl))
        simp only [Act.put, List.setIfInBounds_toArray, List.set_cons_zero, List.set_cons_succ]
        refine lat_take (i := 3) (oi := { dst := some 19, op := Go.Op.load 47 (Go.Operand.tmp 18), type := 47, pos := "platter.go:78", after := #[{ on := 2, ground := Go.Ground.data }], guard := none }) (v := ?va4) rfl (by kernel_rfl) (by kernel_rfl) (by kernel_rfl) (by kernel_rfl) (by kernel_rfl) (fun _ _ _ h => h) (Or.inl ⟨by rfl, ?hya4⟩) hH0 ?resta4
        case hya4 => (intro w hSw; obtain ⟨hp, hr⟩ := hSw; have q1 := hp.k1; have qn := hr 0 _ rfl; simp only [Nat.add_zero] at qn; dsimp only at q1; clear hp hr; go_simp; try (with_reducible rfl))
        simp only [Act.put, List.setIfInBounds_toArray, List.set_cons_zero, List.set_cons_succ]
        refine lat_free (i := 4) (oi := { dst := some 20, op := Go.Op.fieldAddr 57 (Go.Operand.tmp 4) 0, type := 0, pos := "platter.go:78", after := #[], guard := none }) (v := ?va5) rfl (by kernel_rfl) (by kernel_rfl) (by kernel_rfl) (by kernel_rfl) (fun _ _ _ h => h) (Or.inl ⟨by rfl, ?hya5⟩) ⟨hH0.1, fun _ => hH0.2⟩ ?resta5
        case hya5 => (intro w hAw; skip; go_simp; try (with_reducible rfl))
        simp only [Act.put, List.setIfInBounds_toArray, List.set_cons_zero, List.set_cons_succ]
        refine lat_take (i := 5) (oi := { dst := some 21, op := Go.Op.load 3 (Go.Operand.tmp 20), type := 3, pos := "platter.go:78", after := #[{ on := 4, ground := Go.Ground.data }], guard := none }) (v := ?va6) rfl (by kernel_rfl) (by kernel_rfl) (by kernel_rfl) (by kernel_rfl) (by kernel_rfl) (fun _ _ _ h => h) (Or.inl ⟨by rfl, ?hya6⟩) hH0 ?resta6
        case hya6 => (intro w hSw; obtain ⟨hp, hr⟩ := hSw; have q1 := hp.k1; have qn := hr 0 _ rfl; simp only [Nat.add_zero] at qn; dsimp only at q1; clear hp hr; go_simp; try (with_reducible rfl))
        simp only [Act.put, List.setIfInBounds_toArray, List.set_cons_zero, List.set_cons_succ]
        refine lat_free (i := 6) (oi := { dst := some 22, op := Go.Op.fieldAddr 57 (Go.Operand.tmp 4) 1, type := 0, pos := "platter.go:78", after := #[], guard := none }) (v := ?va7) rfl (by kernel_rfl) (by kernel_rfl) (by kernel_rfl) (by kernel_rfl) (fun _ _ _ h => h) (Or.inl ⟨by rfl, ?hya7⟩) ⟨hH0.1, fun _ => hH0.2⟩ ?resta7
        case hya7 => (intro w hAw; skip; go_simp; try (with_reducible rfl))
        simp only [Act.put, List.setIfInBounds_toArray, List.set_cons_zero, List.set_cons_succ]
        refine lat_take (i := 7) (oi := { dst := some 23, op := Go.Op.load 55 (Go.Operand.tmp 22), type := 55, pos := "platter.go:78", after := #[{ on := 6, ground := Go.Ground.data }], guard := none }) rfl (by kernel_rfl) (by kernel_rfl) (by kernel_rfl) (by kernel_rfl) (by kernel_rfl) (fun _ _ _ h => h) (yieldsIf_load_mid (by rfl) 55 (.tmp 22) rfl q 1 rfl (pgV x.b) _ (fun w hSw => range_tail hSw.2) Try.underlying55 rfl (by rw [pgV_len, hx2]; kernel_rfl)) hH0 ?resta8
        simp only [Act.put, List.setIfInBounds_toArray, List.set_cons_zero, List.set_cons_succ]
        refine lat_free (i := 8) (oi := { dst := some 24, op := Go.Op.indexAddr 47 (Go.Operand.tmp 19) (Go.Operand.tmp 21), type := 0, pos := "platter.go:78", after := #[{ on := 3, ground := Go.Ground.data }, { on := 5, ground := Go.Ground.data }, { on := 0, ground := Go.Ground.phase }, { on := 1, ground := Go.Ground.phase }, { on := 2, ground := Go.Ground.phase }, { on := 3, ground := Go.Ground.phase }, { on := 4, ground := Go.Ground.phase }, { on := 5, ground := Go.Ground.phase }, { on := 6, ground := Go.Ground.phase }, { on := 7, ground := Go.Ground.phase }], guard := none }) (v := ?va9) rfl (by kernel_rfl) (by kernel_rfl) (by kernel_rfl) (by kernel_rfl) (fun _ _ _ h => h) (Or.inl ⟨by rfl, ?hya9⟩) ⟨hH0.1, fun _ => hH0.2⟩ ?resta9
        case hya9 => (intro w hAw; skip; go_simp; try (with_reducible rfl))
        simp only [Act.put, List.setIfInBounds_toArray, List.set_cons_zero, List.set_cons_succ]
        refine lat_one (i := 9) (by kernel_rfl) ?_
        refine lat_write (o := { dst := none, op := Go.Op.store 55 (Go.Operand.tmp 24) (Go.Operand.tmp 23), type := 0, pos := "platter.go:78", after := #[{ on := 8, ground := Go.Ground.data }, { on := 7, ground := Go.Ground.data }, { on := 0, ground := Go.Ground.phase }, { on := 1, ground := Go.Ground.phase }, { on := 2, ground := Go.Ground.phase }, { on := 3, ground := Go.Ground.phase }, { on := 4, ground := Go.Ground.phase }, { on := 5, ground := Go.Ground.phase }, { on := 6, ground := Go.Ground.phase }, { on := 7, ground := Go.Ground.phase }], guard := none }) rfl (by kernel_rfl) (fun K hK => ?_)
        rw [if_pos (by rfl)]
        refine wp_store_mid 55 (.tmp 24) (.tmp 23) rfl g2 (x.n * 128) (pgV x.b).toArray rfl rfl ?hth (by show _ = some (pgV x.b).toArray.size; rw [List.size_toArray, pgV_len, hx2]; kernel_rfl) (all_oneCell_toArray (pgV_one _)) ?_
        case hth => (rw [List.size_toArray, pgV_len, hx2]; exact own_there hH0.2.1.r2 _ _ (by show x.n * 128 + 128 ≤ P.now.length * 128; omega))
        simp only [Act.put]
        refine hK.out _ _ (trivial) (fun hHa10 => ?_)
        clear hK K
        refine lat_done (by kernel_rfl) ?_ _
        go_wp2_with (fail)
        refine ⟨⟨k + 1, L.set x.n x.b, by omega, by simp [hw], ?_, ?_, ?_⟩, ?_⟩
        · exact hH0.2.1.putLast (k := x.n) hx1 hx2 (pgV x.b) (by rw [pgV_len, hx2]; exact Nat.le_refl _) (by rw [List.drop_of_length_le (by rw [pgV_len, pgV_len, hx2]; exact Nat.le_of_eq (hH0.2.1.ok.last _ (pg_mem (by rw [hH0.2.1.ok.len]; exact hx1))))]; simp)
        · exact but_setCells (.inr (.inr (.inl rfl))) _ _ (HB.out.trans ((Grew.but hG.out).trans (Grew.but (Grew.refl _).drew)))
        · exact (settleL_drop P.float L k x hx.out).symm.trans HS.out
        · exact meas _ _ hlt hw
      · have hi : ¬ (k : Int) < (P.float.length : Int) := by omega
        have hP := HP.out
        have z2 := hP.z 2
        have y2 := hP.k2
        have hk2 : P.float.drop k = [] := List.drop_of_length_le (by omega)
        have e := HS.out
        rw [hk2, settleL] at e
        replace e : Hid (L = settleL P.float P.last) := e
        go_wp2_with (fail)
        go_ret
        refine ⟨rfl, none, 0, ?_, HB.out.set (b := b) (.inl rfl) 2 none _, fun i e => by cases e⟩
        rw [← e.out]
        have hC := hP.clear
        dsimp only at hC
        rw [hd'] at hC
        exact hC
end
end Go.Proofs.Ytedhgejkobdihaa
