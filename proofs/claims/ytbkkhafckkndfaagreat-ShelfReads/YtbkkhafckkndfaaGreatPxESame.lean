/-
  The statements' own Records, Writes (a list as the document's), SameRecords, SameWrites.
-/
import Derived.Test.YtbkkhafckkndfaaGreatPk05
namespace Go.Proofs.YtbkkhafckkndfaaGreat
open Go Go.RowKit

set_option maxRecDepth 100000 in
theorem info_rrec : ∃ (i : TypeInfo) (z : Value), (Tryz.prog).info? 83 = some i ∧ i.zero = some z ∧ z.cells.size = 2 ∧ i.size = 2 ∧ i.bytes = 24 := ⟨_, _, rfl, rfl, rfl, rfl, rfl⟩
theorem eq_rec (K L : Int) (T U : ByteArray) (w : World) : (binOp .neq 83 (.agg #[.int .i64 K, .string T]) (.agg #[.int .i64 L, .string U])).run Tryz.prog w = .ok (.bool (!(K == L && T.toList == U.toList))) w := by
  have hu := run_underlying Tryz.underlying83 w
  have hd : ∀ t x y, Op.equal t x y = Op.equalIn (9997 + 1 + 1 + 1) t x y := fun _ _ _ => rfl
  simp only [binOp, hd]
  rw [Op.equalIn]
  simp [go_sem, hu]
  by_cases h1 : K = L <;> by_cases h4 : T.toList = U.toList <;> simp [h1, h4]
set_option maxHeartbeats 1000000 in
theorem conv_rec (C : List Pr) (a : Option Addr) (cap : Nat) (w : World) (hS : PrsAt w a C) (hm : C.length ≤ 1000000) : Calls Tryz.prog 25 #[.slice a C.length cap] w fun e w' => ∃ v, e = .returned v ∧ w'.ownsRow w.heap.size 83 2 v C.length (prsV C) ∧ Below w.heap.size w w' := by
  obtain ⟨iw, zw, i1, i2, i3, i4, i5⟩ := info_rrec
  obtain ⟨n, hn⟩ : ∃ n, C.length = n := ⟨_, rfl⟩
  rw [hn] at hm ⊢
  replace hn : Hid (C.length = n) := hn
  obtain ⟨p, hp⟩ : ∃ p, w.heap.size = p := ⟨_, rfl⟩
  rw [hp]
  replace hp : Hid (w.heap.size = p) := hp
  go_enter Tryz.func25, Tryz.ntmps25
  go_wp2
  go_loopw [3, 8] (fun l i wr => ∃ (k : Nat) (a : Option Addr) (cp : Nat), k ≤ n ∧ i = .int .i64 k ∧ l = .slice a k cp ∧ wr.ownsRow p 83 2 (.slice a k cp) k (prsV (C.take k)) ∧ Below p w wr) (fun _ i _ => n - (intOf i).toNat)
  case atStart => exact ⟨0, none, 0, by omega, rfl, rfl, World.ownsRow_nil _ _ _ _, Below.refl _ _⟩
  case round =>
    obtain ⟨k, a3, cp, hk, rfl, rfl, hr, hB⟩ := hrel
    have hpl := hB.size
    have hpp : p ≤ wr.heap.size := by rw [hp.out] at hpl; exact hpl
    by_cases hlt : k < n
    · have hki : (k : Int) < n := by omega
      have hkC : k < C.length := by rw [hn.out]; exact hlt
      obtain ⟨b, off, rfl, hcs⟩ := hS.resolve_left (fun e => by rw [e] at hkC; simp at hkC)
      have hup : Hid (prsV (C.take (k + 1)) = prsV (C.take k) ++ prV (C.getD k noPr)) := by
        show _ = _
        rw [List.take_succ_eq_append_getElem hkC, prs_more]
        simp [List.getD, hkC]
      have hb0 := hcs k hkC
      generalize C.getD k noPr = x at *
      obtain ⟨K, T⟩ := x
      obtain ⟨c0, c1⟩ := hb0
      dsimp only at c0 c1 hup
      replace c0 := below_cell (hp.out ▸ hB) c0
      replace c1 := below_cell (hp.out ▸ hB) c1

      unfold prV at hup
      dsimp only at hup
      replace hB : Hid (Below p w wr) := hB
      clear hcs hS hkC hpl
      go_wp2_with (first
        | (at_builtin; refine wpList_app _ rfl (.tmp 12) (.tmp 18) 36 rfl p 83 iw zw 2 24 Tryz.underlying36 i1 i2 i4 i5 i3 (by decide) (.slice a3 k cp) k _ rfl ((hr.alloc _).alloc _) (some ⟨wr.heap.size + 1, 0, none⟩) 1 1 [.int .i64 K, .string T] rfl rfl (.inr ⟨_, 0, rfl, fun j u hj => new_at _ _ _ _ (by simp) j u hj⟩) (fun u hu => by simp at hu; rcases hu with rfl | rfl <;> rfl) (by unfold maxLen; omega) (by omega) (by simp; omega) ?_; intro v5 w5 hv5 hg5 hk5 hl5)
        | fail)
      obtain ⟨a5, c5, rfl, _⟩ := own_reads hv5
      refine ⟨⟨k + 1, a5, c5, hlt, by simp, rfl, ?_, ?_⟩, meas_up hlt⟩
      · rw [hup.out]
        exact hv5
      · exact (hB.out.trans (((((Grew.refl wr).alloc _ _).alloc _ _).below).mono hpp)).trans ((grown_but hg5).below (fun i e => (hr.lt i e).1) (by simp; omega))
    · have hki : ¬ (k : Int) < n := by omega
      obtain rfl : k = n := by omega
      rw [List.take_of_length_le (by rw [hn.out]; omega)] at hr
      replace hB : Hid (Below p w wr) := hB
      go_wp2
      go_ret
      exact ⟨_, rfl, hr, hB.out⟩
set_option maxHeartbeats 1000000 in
theorem same_rec (A B : List Pr) (a b : Option Addr) (c d : Nat) (w : World) (hA : PrsAt w a A) (hB : PrsAt w b B) (h1 : A.length ≤ 1000000) (h2 : B.length ≤ 1000000) :
    Calls Tryz.prog 13 #[.slice a A.length c, .slice b B.length d] w fun e w' => IsB e (A = B) ∧ Below w.heap.size w w' := by
  have hC : Hid (Calls Tryz.prog 25 #[.slice a A.length c] w fun e w' => ∃ a' c', e = .returned (.slice a' A.length c') ∧ PrsAt w' a' A ∧ Below w.heap.size w w') := by
    refine (conv_rec A a c w hA h1).mono fun e w' ⟨v, q1, q2, q3⟩ => ?_
    obtain ⟨a', c', rfl, q4⟩ := prs_of q2
    exact ⟨a', c', q1, q4, q3⟩
  obtain ⟨n, hn⟩ : ∃ n, A.length = n := ⟨_, rfl⟩
  obtain ⟨m, hm⟩ : ∃ m, B.length = m := ⟨_, rfl⟩
  rw [hn] at hC ⊢
  rw [hm]
  rw [hn] at h1
  rw [hm] at h2
  replace hn : Hid (A.length = n) := hn
  replace hm : Hid (B.length = m) := hm
  have hnB : Hid (n ≠ m → ¬ A = B) := fun h e => h (by rw [← hn.out, ← hm.out, e])
  clear hA
  go_enter Tryz.func13, Tryz.ntmps13
  go_wp2_with (first
    | (go_at_call 25; go_fit hC.out; rintro e w1 ⟨a1, c1, rfl, hA1, B1⟩)
    | fail)
  have hB1 : PrsAt w1 b B := hB.below B1
  clear hB hC
  go_loopw [11] (fun i wr => ∃ k j : Nat, k ≤ n ∧ i = .int .i64 k ∧ wr = w1.drewN j ∧ A.take k = B.take k ∧ k ≤ m) (fun i _ => n - (intOf i).toNat)
  case atStart => exact ⟨0, 0, by omega, rfl, rfl, rfl, by omega⟩
  case round =>
    obtain ⟨k, j, hk, rfl, HW, ht, hkm⟩ := hrel
    replace ht : Hid (A.take k = B.take k) := ht
    have hA2 : PrsAt wr a1 A := by rw [HW]; exact hA1
    have hB2 : PrsAt wr b B := by rw [HW]; exact hB1
    replace HW : Hid (wr = w1.drewN j) := HW
    have hE : Hid (Below w.heap.size w (w1.drewN j)) := B1.trans ⟨rfl, rfl, rfl, Nat.le_refl _, fun _ _ => rfl⟩
    clear hA1 hB1
    by_cases hlt : k < n
    · have hki : (k : Int) < n := by omega
      by_cases hlm : m ≤ k
      · have hlmi : (m : Int) ≤ k := by omega
        have hlmN : decide ((m : Int) ≤ k) = true := decide_eq_true hlmi
        have hlmM : decide (m ≤ k) = true := decide_eq_true hlm
        have hF : Hid _ := hnB.out (by omega)
        clear hA2 hB2 hnB
        go_upto_region 5 with (fail)
        go_quiet (fail)
        go_wp2_with (fail)
        go_ret
        refine ⟨⟨false, rfl, iff_of_false (by decide) hF.out⟩, ?_⟩
        rw [HW.out]
        exact hE.out.trans ⟨rfl, rfl, rfl, Nat.le_refl _, fun _ _ => rfl⟩
      · have hlmi : ¬ (m : Int) ≤ k := by omega
        have hlmN : decide ((m : Int) ≤ k) = false := decide_eq_false hlmi
        have hlmM : decide (m ≤ k) = false := decide_eq_false hlm
        have hkmi : (k : Int) < m := by omega
        have hkA : k < A.length := by rw [hn.out]; exact hlt
        have hkB : k < B.length := by rw [hm.out]; omega
        obtain ⟨x0, o0, rfl, hcs⟩ := hA2.resolve_left (fun e => by rw [e] at hkA; simp at hkA)
        obtain ⟨y0, o1, rfl, hds⟩ := hB2.resolve_left (fun e => by rw [e] at hkB; simp at hkB)
        have ha := hcs k hkA
        have hb := hds k hkB
        have hst : Hid (A.getD k noPr = B.getD k noPr → A.take (k + 1) = B.take (k + 1)) := take_same noPr A B hkA hkB ht.out
        have hdf : Hid (¬ A.getD k noPr = B.getD k noPr → ¬ A = B) := fun h e => h (by rw [e])
        generalize A.getD k noPr = x at *
        generalize B.getD k noPr = y at *
        obtain ⟨K, T⟩ := x
        obtain ⟨L, U⟩ := y
        obtain ⟨c0, c1⟩ := ha
        obtain ⟨d0, d1⟩ := hb
        dsimp only at c0 c1 d0 d1
        clear hcs hds hnB ht hkA hkB hlm
        by_cases e : (⟨K, T⟩ : Pr) = ⟨L, U⟩
        · have hT : Hid _ := hst.out e
          simp only [Pr.mk.injEq] at e
          obtain ⟨rfl, rfl⟩ := e
          have he : ∀ W, (binOp .neq 83 (.agg #[.int .i64 K, .string T]) (.agg #[.int .i64 K, .string T])).run Tryz.prog W = .ok (.bool false) W := fun W => by rw [eq_rec]; simp
          clear hst hdf
          go_upto_region 5 with (fail)
          go_quiet (fail)
          go_wp2_with (fail)
          refine ⟨⟨k + 1, _, hlt, by simp, by rw [HW.out, World.drewN_drewN], hT.out, by omega⟩, meas_up hlt⟩
        · have hF : Hid _ := hdf.out e
          have he : ∀ W, (binOp .neq 83 (.agg #[.int .i64 K, .string T]) (.agg #[.int .i64 L, .string U])).run Tryz.prog W = .ok (.bool true) W := fun W => by
            rw [eq_rec]
            simp only [Pr.mk.injEq] at e
            by_cases h1 : K = L <;> by_cases h4 : T = U <;> simp [h1, h4] at e ⊢
            simpa using bytes_ne' h4
          clear hst hdf e
          go_upto_region 5 with (fail)
          go_quiet (fail)
          go_wp2_with (fail)
          go_ret
          refine ⟨⟨false, rfl, iff_of_false (by decide) hF.out⟩, ?_⟩
          rw [HW.out]
          exact hE.out.trans ⟨rfl, rfl, rfl, Nat.le_refl _, fun _ _ => rfl⟩
    · have hki : ¬ (k : Int) < n := by omega
      obtain rfl : k = n := by omega
      have hF : Hid (((k : Int) == (m : Int)) = true ↔ A = B) := by
        show _ ↔ _
        by_cases e : k = m
        · have h := ht.out
          rw [List.take_of_length_le (by rw [hn.out]; omega), List.take_of_length_le (by rw [hm.out]; omega)] at h
          exact iff_of_true (by simp [e]) h
        · exact iff_of_false (by simp; omega) (hnB.out e)
      clear hA2 hB2 hnB
      go_wp2_with (fail)
      go_ret
      refine ⟨⟨_, rfl, hF.out⟩, ?_⟩
      rw [HW.out]
      exact hE.out

set_option maxRecDepth 100000 in
theorem info_rwri : ∃ (i : TypeInfo) (z : Value), (Tryz.prog).info? 86 = some i ∧ i.zero = some z ∧ z.cells.size = 2 ∧ i.size = 2 ∧ i.bytes = 24 := ⟨_, _, rfl, rfl, rfl, rfl, rfl⟩
theorem eq_wri (K L : Int) (T U : ByteArray) (w : World) : (binOp .neq 86 (.agg #[.int .i64 K, .string T]) (.agg #[.int .i64 L, .string U])).run Tryz.prog w = .ok (.bool (!(K == L && T.toList == U.toList))) w := by
  have hu := run_underlying Tryz.underlying86 w
  have hd : ∀ t x y, Op.equal t x y = Op.equalIn (9997 + 1 + 1 + 1) t x y := fun _ _ _ => rfl
  simp only [binOp, hd]
  rw [Op.equalIn]
  simp [go_sem, hu]
  by_cases h1 : K = L <;> by_cases h4 : T.toList = U.toList <;> simp [h1, h4]
set_option maxHeartbeats 1000000 in
theorem conv_wri (C : List Pr) (a : Option Addr) (cap : Nat) (w : World) (hS : PrsAt w a C) (hm : C.length ≤ 1000000) : Calls Tryz.prog 26 #[.slice a C.length cap] w fun e w' => ∃ v, e = .returned v ∧ w'.ownsRow w.heap.size 86 2 v C.length (prsV C) ∧ Below w.heap.size w w' := by
  obtain ⟨iw, zw, i1, i2, i3, i4, i5⟩ := info_rwri
  obtain ⟨n, hn⟩ : ∃ n, C.length = n := ⟨_, rfl⟩
  rw [hn] at hm ⊢
  replace hn : Hid (C.length = n) := hn
  obtain ⟨p, hp⟩ : ∃ p, w.heap.size = p := ⟨_, rfl⟩
  rw [hp]
  replace hp : Hid (w.heap.size = p) := hp
  go_enter Tryz.func26, Tryz.ntmps26
  go_wp2
  go_loopw [3, 8] (fun l i wr => ∃ (k : Nat) (a : Option Addr) (cp : Nat), k ≤ n ∧ i = .int .i64 k ∧ l = .slice a k cp ∧ wr.ownsRow p 86 2 (.slice a k cp) k (prsV (C.take k)) ∧ Below p w wr) (fun _ i _ => n - (intOf i).toNat)
  case atStart => exact ⟨0, none, 0, by omega, rfl, rfl, World.ownsRow_nil _ _ _ _, Below.refl _ _⟩
  case round =>
    obtain ⟨k, a3, cp, hk, rfl, rfl, hr, hB⟩ := hrel
    have hpl := hB.size
    have hpp : p ≤ wr.heap.size := by rw [hp.out] at hpl; exact hpl
    by_cases hlt : k < n
    · have hki : (k : Int) < n := by omega
      have hkC : k < C.length := by rw [hn.out]; exact hlt
      obtain ⟨b, off, rfl, hcs⟩ := hS.resolve_left (fun e => by rw [e] at hkC; simp at hkC)
      have hup : Hid (prsV (C.take (k + 1)) = prsV (C.take k) ++ prV (C.getD k noPr)) := by
        show _ = _
        rw [List.take_succ_eq_append_getElem hkC, prs_more]
        simp [List.getD, hkC]
      have hb0 := hcs k hkC
      generalize C.getD k noPr = x at *
      obtain ⟨K, T⟩ := x
      obtain ⟨c0, c1⟩ := hb0
      dsimp only at c0 c1 hup
      replace c0 := below_cell (hp.out ▸ hB) c0
      replace c1 := below_cell (hp.out ▸ hB) c1

      unfold prV at hup
      dsimp only at hup
      replace hB : Hid (Below p w wr) := hB
      clear hcs hS hkC hpl
      go_wp2_with (first
        | (at_builtin; refine wpList_app _ rfl (.tmp 12) (.tmp 18) 37 rfl p 86 iw zw 2 24 Tryz.underlying37 i1 i2 i4 i5 i3 (by decide) (.slice a3 k cp) k _ rfl ((hr.alloc _).alloc _) (some ⟨wr.heap.size + 1, 0, none⟩) 1 1 [.int .i64 K, .string T] rfl rfl (.inr ⟨_, 0, rfl, fun j u hj => new_at _ _ _ _ (by simp) j u hj⟩) (fun u hu => by simp at hu; rcases hu with rfl | rfl <;> rfl) (by unfold maxLen; omega) (by omega) (by simp; omega) ?_; intro v5 w5 hv5 hg5 hk5 hl5)
        | fail)
      obtain ⟨a5, c5, rfl, _⟩ := own_reads hv5
      refine ⟨⟨k + 1, a5, c5, hlt, by simp, rfl, ?_, ?_⟩, meas_up hlt⟩
      · rw [hup.out]
        exact hv5
      · exact (hB.out.trans (((((Grew.refl wr).alloc _ _).alloc _ _).below).mono hpp)).trans ((grown_but hg5).below (fun i e => (hr.lt i e).1) (by simp; omega))
    · have hki : ¬ (k : Int) < n := by omega
      obtain rfl : k = n := by omega
      rw [List.take_of_length_le (by rw [hn.out]; omega)] at hr
      replace hB : Hid (Below p w wr) := hB
      go_wp2
      go_ret
      exact ⟨_, rfl, hr, hB.out⟩
set_option maxHeartbeats 1000000 in
theorem same_wri (A B : List Pr) (a b : Option Addr) (c d : Nat) (w : World) (hA : PrsAt w a A) (hB : PrsAt w b B) (h1 : A.length ≤ 1000000) (h2 : B.length ≤ 1000000) :
    Calls Tryz.prog 14 #[.slice a A.length c, .slice b B.length d] w fun e w' => IsB e (A = B) ∧ Below w.heap.size w w' := by
  have hC : Hid (Calls Tryz.prog 26 #[.slice a A.length c] w fun e w' => ∃ a' c', e = .returned (.slice a' A.length c') ∧ PrsAt w' a' A ∧ Below w.heap.size w w') := by
    refine (conv_wri A a c w hA h1).mono fun e w' ⟨v, q1, q2, q3⟩ => ?_
    obtain ⟨a', c', rfl, q4⟩ := prs_of q2
    exact ⟨a', c', q1, q4, q3⟩
  obtain ⟨n, hn⟩ : ∃ n, A.length = n := ⟨_, rfl⟩
  obtain ⟨m, hm⟩ : ∃ m, B.length = m := ⟨_, rfl⟩
  rw [hn] at hC ⊢
  rw [hm]
  rw [hn] at h1
  rw [hm] at h2
  replace hn : Hid (A.length = n) := hn
  replace hm : Hid (B.length = m) := hm
  have hnB : Hid (n ≠ m → ¬ A = B) := fun h e => h (by rw [← hn.out, ← hm.out, e])
  clear hA
  go_enter Tryz.func14, Tryz.ntmps14
  go_wp2_with (first
    | (go_at_call 26; go_fit hC.out; rintro e w1 ⟨a1, c1, rfl, hA1, B1⟩)
    | fail)
  have hB1 : PrsAt w1 b B := hB.below B1
  clear hB hC
  go_loopw [11] (fun i wr => ∃ k j : Nat, k ≤ n ∧ i = .int .i64 k ∧ wr = w1.drewN j ∧ A.take k = B.take k ∧ k ≤ m) (fun i _ => n - (intOf i).toNat)
  case atStart => exact ⟨0, 0, by omega, rfl, rfl, rfl, by omega⟩
  case round =>
    obtain ⟨k, j, hk, rfl, HW, ht, hkm⟩ := hrel
    replace ht : Hid (A.take k = B.take k) := ht
    have hA2 : PrsAt wr a1 A := by rw [HW]; exact hA1
    have hB2 : PrsAt wr b B := by rw [HW]; exact hB1
    replace HW : Hid (wr = w1.drewN j) := HW
    have hE : Hid (Below w.heap.size w (w1.drewN j)) := B1.trans ⟨rfl, rfl, rfl, Nat.le_refl _, fun _ _ => rfl⟩
    clear hA1 hB1
    by_cases hlt : k < n
    · have hki : (k : Int) < n := by omega
      by_cases hlm : m ≤ k
      · have hlmi : (m : Int) ≤ k := by omega
        have hlmN : decide ((m : Int) ≤ k) = true := decide_eq_true hlmi
        have hlmM : decide (m ≤ k) = true := decide_eq_true hlm
        have hF : Hid _ := hnB.out (by omega)
        clear hA2 hB2 hnB
        go_upto_region 5 with (fail)
        go_quiet (fail)
        go_wp2_with (fail)
        go_ret
        refine ⟨⟨false, rfl, iff_of_false (by decide) hF.out⟩, ?_⟩
        rw [HW.out]
        exact hE.out.trans ⟨rfl, rfl, rfl, Nat.le_refl _, fun _ _ => rfl⟩
      · have hlmi : ¬ (m : Int) ≤ k := by omega
        have hlmN : decide ((m : Int) ≤ k) = false := decide_eq_false hlmi
        have hlmM : decide (m ≤ k) = false := decide_eq_false hlm
        have hkmi : (k : Int) < m := by omega
        have hkA : k < A.length := by rw [hn.out]; exact hlt
        have hkB : k < B.length := by rw [hm.out]; omega
        obtain ⟨x0, o0, rfl, hcs⟩ := hA2.resolve_left (fun e => by rw [e] at hkA; simp at hkA)
        obtain ⟨y0, o1, rfl, hds⟩ := hB2.resolve_left (fun e => by rw [e] at hkB; simp at hkB)
        have ha := hcs k hkA
        have hb := hds k hkB
        have hst : Hid (A.getD k noPr = B.getD k noPr → A.take (k + 1) = B.take (k + 1)) := take_same noPr A B hkA hkB ht.out
        have hdf : Hid (¬ A.getD k noPr = B.getD k noPr → ¬ A = B) := fun h e => h (by rw [e])
        generalize A.getD k noPr = x at *
        generalize B.getD k noPr = y at *
        obtain ⟨K, T⟩ := x
        obtain ⟨L, U⟩ := y
        obtain ⟨c0, c1⟩ := ha
        obtain ⟨d0, d1⟩ := hb
        dsimp only at c0 c1 d0 d1
        clear hcs hds hnB ht hkA hkB hlm
        by_cases e : (⟨K, T⟩ : Pr) = ⟨L, U⟩
        · have hT : Hid _ := hst.out e
          simp only [Pr.mk.injEq] at e
          obtain ⟨rfl, rfl⟩ := e
          have he : ∀ W, (binOp .neq 86 (.agg #[.int .i64 K, .string T]) (.agg #[.int .i64 K, .string T])).run Tryz.prog W = .ok (.bool false) W := fun W => by rw [eq_wri]; simp
          clear hst hdf
          go_upto_region 5 with (fail)
          go_quiet (fail)
          go_wp2_with (fail)
          refine ⟨⟨k + 1, _, hlt, by simp, by rw [HW.out, World.drewN_drewN], hT.out, by omega⟩, meas_up hlt⟩
        · have hF : Hid _ := hdf.out e
          have he : ∀ W, (binOp .neq 86 (.agg #[.int .i64 K, .string T]) (.agg #[.int .i64 L, .string U])).run Tryz.prog W = .ok (.bool true) W := fun W => by
            rw [eq_wri]
            simp only [Pr.mk.injEq] at e
            by_cases h1 : K = L <;> by_cases h4 : T = U <;> simp [h1, h4] at e ⊢
            simpa using bytes_ne' h4
          clear hst hdf e
          go_upto_region 5 with (fail)
          go_quiet (fail)
          go_wp2_with (fail)
          go_ret
          refine ⟨⟨false, rfl, iff_of_false (by decide) hF.out⟩, ?_⟩
          rw [HW.out]
          exact hE.out.trans ⟨rfl, rfl, rfl, Nat.le_refl _, fun _ _ => rfl⟩
    · have hki : ¬ (k : Int) < n := by omega
      obtain rfl : k = n := by omega
      have hF : Hid (((k : Int) == (m : Int)) = true ↔ A = B) := by
        show _ ↔ _
        by_cases e : k = m
        · have h := ht.out
          rw [List.take_of_length_le (by rw [hn.out]; omega), List.take_of_length_le (by rw [hm.out]; omega)] at h
          exact iff_of_true (by simp [e]) h
        · exact iff_of_false (by simp; omega) (hnB.out e)
      clear hA2 hB2 hnB
      go_wp2_with (fail)
      go_ret
      refine ⟨⟨_, rfl, hF.out⟩, ?_⟩
      rw [HW.out]
      exact hE.out
end Go.Proofs.YtbkkhafckkndfaaGreat
