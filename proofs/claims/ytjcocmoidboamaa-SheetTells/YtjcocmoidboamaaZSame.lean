/-
  The statements' own slots, cells (a list as the document's), sameSlots, sameCells.
-/
import Derived.Test.YtjcocmoidboamaaZAlive
namespace Go.Proofs.Ytjcocmoidboamaa
open Go Go.RowKit

/-- A bool is returned that tells whether P. -/
def IsB (e : Ending) (P : Prop) : Prop := ∃ r : Bool, e = .returned (.bool r) ∧ (r = true ↔ P)
theorem IsB.yes {e : Ending} {P : Prop} (h : IsB e P) (hp : P) : e = .returned (.bool true) := by
  obtain ⟨r, h1, h2⟩ := h
  rw [h1, h2.2 hp]
theorem IsB.no {e : Ending} {P : Prop} (h : IsB e P) (hp : ¬ P) : e = .returned (.bool false) := by
  obtain ⟨r, h1, h2⟩ := h
  cases r with
  | false => exact h1
  | true => exact absurd (h2.1 rfl) hp
theorem take_same {α : Type} (d : α) (A B : List α) {k : Nat} (h1 : k < A.length) (h2 : k < B.length) (ht : A.take k = B.take k) (e : A.getD k d = B.getD k d) : A.take (k + 1) = B.take (k + 1) := by
  rw [List.take_succ_eq_append_getElem h1, List.take_succ_eq_append_getElem h2, ht]
  congr 2
  simpa [List.getD, h1, h2] using e
theorem new_at (w : World) (cs : List Value) (t : TypeId) (q : Nat) (hq : q = w.heap.size) (j : Nat) (u : Value) (hj : cs[j]? = some u) : (w.alloc (.cells cs.toArray t)).cell? ⟨q, 0 + j, none⟩ = some u := by
  rw [hq, cell_of_row _ _ _ _ _ _ (heap_alloc_new _ _), Nat.zero_add]
  rw [← hj, List.getElem?_toArray]
theorem SlotsAt.below {w w' : World} {a : Option Addr} {C : List Sl} (h : SlotsAt w a C) (g : Below w.heap.size w w') : SlotsAt w' a C := by
  rcases h with h | ⟨b, off, e, h⟩
  · exact .inl h
  · exact .inr ⟨b, off, e, fun i hi => ⟨below_cell g (h i hi).1, below_cell g (h i hi).2⟩⟩
theorem CellsAt.below {w w' : World} {a : Option Addr} {C : List Ce} (h : CellsAt w a C) (g : Below w.heap.size w w') : CellsAt w' a C := by
  rcases h with h | ⟨b, off, e, h⟩
  · exact .inl h
  · exact .inr ⟨b, off, e, fun i hi => ⟨below_cell g (h i hi).1, below_cell g (h i hi).2.1, below_cell g (h i hi).2.2.1, below_cell g (h i hi).2.2.2⟩⟩

theorem info_rslot : ∃ (i : TypeInfo) (z : Value), (Try.prog).info? 66 = some i ∧ i.zero = some z ∧ z.cells.size = 2 ∧ i.size = 2 ∧ i.bytes = 16 := ⟨_, _, rfl, rfl, rfl, rfl, rfl⟩
theorem eq_slot (K Q L P : Int) (w : World) : (binOp .neq 66 (.agg #[.int .i64 K, .int .i64 Q]) (.agg #[.int .i64 L, .int .i64 P])).run Try.prog w = .ok (.bool (!(K == L && Q == P))) w := by
  have hu := run_underlying Try.underlying66 w
  have hd : ∀ t x y, Op.equal t x y = Op.equalIn (9997 + 1 + 1 + 1) t x y := fun _ _ _ => rfl
  simp only [binOp, hd]
  rw [Op.equalIn]
  simp [go_sem, hu]
  by_cases h1 : K = L <;> by_cases h2 : Q = P <;> simp [h1, h2]
set_option maxHeartbeats 1000000 in
theorem conv_slot (C : List Sl) (a : Option Addr) (cap : Nat) (w : World) (hS : SlotsAt w a C) (hm : C.length ≤ 1000000) : Calls Try.prog 12 #[.slice a C.length cap] w fun e w' => ∃ v, e = .returned v ∧ w'.ownsRow w.heap.size 66 2 v C.length (slsV C) ∧ Below w.heap.size w w' := by
  obtain ⟨iw, zw, i1, i2, i3, i4, i5⟩ := info_rslot
  obtain ⟨n, hn⟩ : ∃ n, C.length = n := ⟨_, rfl⟩
  rw [hn] at hm ⊢
  replace hn : Hid (C.length = n) := hn
  obtain ⟨p, hp⟩ : ∃ p, w.heap.size = p := ⟨_, rfl⟩
  rw [hp]
  replace hp : Hid (w.heap.size = p) := hp
  go_enter Try.func12, Try.ntmps12
  go_wp2
  go_loopw [3, 8] (fun l i wr => ∃ (k : Nat) (a : Option Addr) (cp : Nat), k ≤ n ∧ i = .int .i64 k ∧ l = .slice a k cp ∧ wr.ownsRow p 66 2 (.slice a k cp) k (slsV (C.take k)) ∧ Below p w wr) (fun _ i _ => n - (intOf i).toNat)
  case atStart => exact ⟨0, none, 0, by omega, rfl, rfl, World.ownsRow_nil _ _ _ _, Below.refl _ _⟩
  case round =>
    obtain ⟨k, a3, cp, hk, rfl, rfl, hr, hB⟩ := hrel
    have hpl := hB.size
    have hpp : p ≤ wr.heap.size := by rw [hp.out] at hpl; exact hpl
    by_cases hlt : k < n
    · have hki : (k : Int) < n := by omega
      have hkC : k < C.length := by rw [hn.out]; exact hlt
      obtain ⟨b, off, rfl, hcs⟩ := hS.resolve_left (fun e => by rw [e] at hkC; simp at hkC)
      have hup : Hid (slsV (C.take (k + 1)) = slsV (C.take k) ++ slV (C.getD k (⟨0, 0⟩ : Sl))) := by
        show _ = _
        rw [List.take_succ_eq_append_getElem hkC, sls_more]
        simp [List.getD, hkC]
      have hb0 := hcs k hkC
      generalize C.getD k (⟨0, 0⟩ : Sl) = x at *
      obtain ⟨K, Q⟩ := x
      obtain ⟨c0, c1⟩ := hb0
      dsimp only at c0 c1 hup
      replace c0 := below_cell (hp.out ▸ hB) c0
      replace c1 := below_cell (hp.out ▸ hB) c1

      unfold slV at hup
      dsimp only at hup
      replace hB : Hid (Below p w wr) := hB
      clear hcs hS hkC hpl
      go_wp2_with (first
        | (at_builtin; refine wpList_app _ rfl (.tmp 12) (.tmp 18) 30 rfl p 66 iw zw 2 16 Try.underlying30 i1 i2 i4 i5 i3 (by decide) (.slice a3 k cp) k _ rfl ((hr.alloc _).alloc _) (some ⟨wr.heap.size + 1, 0, none⟩) 1 1 [.int .i64 K, .int .i64 Q] rfl rfl (.inr ⟨_, 0, rfl, fun j u hj => new_at _ _ _ _ (by simp) j u hj⟩) (fun u hu => by simp at hu; rcases hu with rfl | rfl <;> rfl) (by unfold maxLen; omega) (by omega) (by simp; omega) ?_; intro v5 w5 hv5 hg5 hk5 hl5)
        | fail)
      obtain ⟨a5, c5, rfl, _⟩ := own_reads hv5
      refine ⟨⟨k + 1, a5, c5, hlt, by simp, rfl, ?_, ?_⟩, meas_up hlt⟩
      · rw [hup.out]
        exact hv5
      · exact (hB.out.trans (((((Grew.refl wr).alloc _ _).alloc _ _).below).mono hpp)).trans ((grown_but hg5).below (fun i e => (hr.lt i e).1) (by simp; omega))
    · have hki : ¬ (k : Int) < n := by omega
      obtain rfl : k = n := by omega
      rw [List.take_of_length_le (by rw [hn.out]; omega)] at hr
      replace hB : Hid (Below p w wr) := hB
      go_wp2
      go_ret
      exact ⟨_, rfl, hr, hB.out⟩
set_option maxHeartbeats 1000000 in
theorem same_slot (A B : List Sl) (a b : Option Addr) (c d : Nat) (w : World) (hA : SlotsAt w a A) (hB : SlotsAt w b B) (h1 : A.length ≤ 1000000) (h2 : B.length ≤ 1000000) :
    Calls Try.prog 25 #[.slice a A.length c, .slice b B.length d] w fun e w' => IsB e (A = B) ∧ Below w.heap.size w w' := by
  have hC : Hid (Calls Try.prog 12 #[.slice a A.length c] w fun e w' => ∃ a' c', e = .returned (.slice a' A.length c') ∧ SlotsAt w' a' A ∧ Below w.heap.size w w') := by
    refine (conv_slot A a c w hA h1).mono fun e w' ⟨v, q1, q2, q3⟩ => ?_
    obtain ⟨a', c', rfl, q4⟩ := slots_of q2
    exact ⟨a', c', q1, q4, q3⟩
  obtain ⟨n, hn⟩ : ∃ n, A.length = n := ⟨_, rfl⟩
  obtain ⟨m, hm⟩ : ∃ m, B.length = m := ⟨_, rfl⟩
  rw [hn] at hC ⊢
  rw [hm]
  rw [hn] at h1
  rw [hm] at h2
  replace hn : Hid (A.length = n) := hn
  replace hm : Hid (B.length = m) := hm
  have hnB : Hid (n ≠ m → ¬ A = B) := fun h e => h (by rw [← hn.out, ← hm.out, e])
  clear hA
  go_enter Try.func25, Try.ntmps25
  go_wp2_with (first
    | (go_at_call 12; go_fit hC.out; rintro e w1 ⟨a1, c1, rfl, hA1, B1⟩)
    | fail)
  have hB1 : SlotsAt w1 b B := hB.below B1
  clear hB hC
  go_loopw [11] (fun i wr => ∃ k j : Nat, k ≤ n ∧ i = .int .i64 k ∧ wr = w1.drewN j ∧ A.take k = B.take k ∧ k ≤ m) (fun i _ => n - (intOf i).toNat)
  case atStart => exact ⟨0, 0, by omega, rfl, rfl, rfl, by omega⟩
  case round =>
    obtain ⟨k, j, hk, rfl, HW, ht, hkm⟩ := hrel
    replace ht : Hid (A.take k = B.take k) := ht
    have hA2 : SlotsAt wr a1 A := by rw [HW]; exact hA1
    have hB2 : SlotsAt wr b B := by rw [HW]; exact hB1
    replace HW : Hid (wr = w1.drewN j) := HW
    have hE : Hid (Below w.heap.size w (w1.drewN j)) := B1.trans ⟨rfl, rfl, rfl, Nat.le_refl _, fun _ _ => rfl⟩
    clear hA1 hB1
    by_cases hlt : k < n
    · have hki : (k : Int) < n := by omega
      by_cases hlm : m ≤ k
      · have hlmi : (m : Int) ≤ k := by omega
        have hlmN : decide ((m : Int) ≤ k) = true := decide_eq_true hlmi
        have hlmM : decide (m ≤ k) = true := decide_eq_true hlm
        have hF : Hid _ := hnB.out (by omega)
        clear hA2 hB2 hnB
        go_upto_region 5 with (fail)
        go_quiet (fail)
        go_wp2_with (fail)
        go_ret
        refine ⟨⟨false, rfl, iff_of_false (by decide) hF.out⟩, ?_⟩
        rw [HW.out]
        exact hE.out.trans ⟨rfl, rfl, rfl, Nat.le_refl _, fun _ _ => rfl⟩
      · have hlmi : ¬ (m : Int) ≤ k := by omega
        have hlmN : decide ((m : Int) ≤ k) = false := decide_eq_false hlmi
        have hlmM : decide (m ≤ k) = false := decide_eq_false hlm
        have hkmi : (k : Int) < m := by omega
        have hkA : k < A.length := by rw [hn.out]; exact hlt
        have hkB : k < B.length := by rw [hm.out]; omega
        obtain ⟨x0, o0, rfl, hcs⟩ := hA2.resolve_left (fun e => by rw [e] at hkA; simp at hkA)
        obtain ⟨y0, o1, rfl, hds⟩ := hB2.resolve_left (fun e => by rw [e] at hkB; simp at hkB)
        have ha := hcs k hkA
        have hb := hds k hkB
        have hst : Hid (A.getD k (⟨0, 0⟩ : Sl) = B.getD k (⟨0, 0⟩ : Sl) → A.take (k + 1) = B.take (k + 1)) := take_same (⟨0, 0⟩ : Sl) A B hkA hkB ht.out
        have hdf : Hid (¬ A.getD k (⟨0, 0⟩ : Sl) = B.getD k (⟨0, 0⟩ : Sl) → ¬ A = B) := fun h e => h (by rw [e])
        generalize A.getD k (⟨0, 0⟩ : Sl) = x at *
        generalize B.getD k (⟨0, 0⟩ : Sl) = y at *
        obtain ⟨K, Q⟩ := x
        obtain ⟨L, P⟩ := y
        obtain ⟨c0, c1⟩ := ha
        obtain ⟨d0, d1⟩ := hb
        dsimp only at c0 c1 d0 d1
        clear hcs hds hnB ht hkA hkB hlm
        by_cases e : (⟨K, Q⟩ : Sl) = ⟨L, P⟩
        · have hT : Hid _ := hst.out e
          simp only [Sl.mk.injEq] at e
          obtain ⟨rfl, rfl⟩ := e
          have he : ∀ W, (binOp .neq 66 (.agg #[.int .i64 K, .int .i64 Q]) (.agg #[.int .i64 K, .int .i64 Q])).run Try.prog W = .ok (.bool false) W := fun W => by rw [eq_slot]; simp
          clear hst hdf
          go_upto_region 5 with (fail)
          go_quiet (fail)
          go_wp2_with (fail)
          refine ⟨⟨k + 1, _, hlt, by simp, by rw [HW.out, World.drewN_drewN], hT.out, by omega⟩, meas_up hlt⟩
        · have hF : Hid _ := hdf.out e
          have he : ∀ W, (binOp .neq 66 (.agg #[.int .i64 K, .int .i64 Q]) (.agg #[.int .i64 L, .int .i64 P])).run Try.prog W = .ok (.bool true) W := fun W => by
            rw [eq_slot]
            simp only [Sl.mk.injEq] at e
            by_cases h1 : K = L <;> by_cases h2 : Q = P <;> simp [h1, h2] at e ⊢
          clear hst hdf e
          go_upto_region 5 with (fail)
          go_quiet (fail)
          go_wp2_with (fail)
          go_ret
          refine ⟨⟨false, rfl, iff_of_false (by decide) hF.out⟩, ?_⟩
          rw [HW.out]
          exact hE.out.trans ⟨rfl, rfl, rfl, Nat.le_refl _, fun _ _ => rfl⟩
    · have hki : ¬ (k : Int) < n := by omega
      obtain rfl : k = n := by omega
      have hF : Hid (((k : Int) == (m : Int)) = true ↔ A = B) := by
        show _ ↔ _
        by_cases e : k = m
        · have h := ht.out
          rw [List.take_of_length_le (by rw [hn.out]; omega), List.take_of_length_le (by rw [hm.out]; omega)] at h
          exact iff_of_true (by simp [e]) h
        · exact iff_of_false (by simp; omega) (hnB.out e)
      clear hA2 hB2 hnB
      go_wp2_with (fail)
      go_ret
      refine ⟨⟨_, rfl, hF.out⟩, ?_⟩
      rw [HW.out]
      exact hE.out

theorem info_rcell : ∃ (i : TypeInfo) (z : Value), (Try.prog).info? 68 = some i ∧ i.zero = some z ∧ z.cells.size = 4 ∧ i.size = 4 ∧ i.bytes = 40 := ⟨_, _, rfl, rfl, rfl, rfl, rfl⟩
theorem eq_cell (K Z Q L X P : Int) (T U : ByteArray) (w : World) : (binOp .neq 68 (.agg #[.int .i64 K, .int .i64 Z, .int .i64 Q, .string T]) (.agg #[.int .i64 L, .int .i64 X, .int .i64 P, .string U])).run Try.prog w = .ok (.bool (!(K == L && Z == X && Q == P && T.toList == U.toList))) w := by
  have hu := run_underlying Try.underlying68 w
  have hd : ∀ t x y, Op.equal t x y = Op.equalIn (9997 + 1 + 1 + 1) t x y := fun _ _ _ => rfl
  simp only [binOp, hd]
  rw [Op.equalIn]
  simp [go_sem, hu]
  by_cases h1 : K = L <;> by_cases h2 : Z = X <;> by_cases h3 : Q = P <;> by_cases h4 : T.toList = U.toList <;> simp [h1, h2, h3, h4]
set_option maxHeartbeats 1000000 in
theorem conv_cell (C : List Ce) (a : Option Addr) (cap : Nat) (w : World) (hS : CellsAt w a C) (hm : C.length ≤ 1000000) : Calls Try.prog 15 #[.slice a C.length cap] w fun e w' => ∃ v, e = .returned v ∧ w'.ownsRow w.heap.size 68 4 v C.length (cesV C) ∧ Below w.heap.size w w' := by
  obtain ⟨iw, zw, i1, i2, i3, i4, i5⟩ := info_rcell
  obtain ⟨n, hn⟩ : ∃ n, C.length = n := ⟨_, rfl⟩
  rw [hn] at hm ⊢
  replace hn : Hid (C.length = n) := hn
  obtain ⟨p, hp⟩ : ∃ p, w.heap.size = p := ⟨_, rfl⟩
  rw [hp]
  replace hp : Hid (w.heap.size = p) := hp
  go_enter Try.func15, Try.ntmps15
  go_wp2
  go_loopw [3, 8] (fun l i wr => ∃ (k : Nat) (a : Option Addr) (cp : Nat), k ≤ n ∧ i = .int .i64 k ∧ l = .slice a k cp ∧ wr.ownsRow p 68 4 (.slice a k cp) k (cesV (C.take k)) ∧ Below p w wr) (fun _ i _ => n - (intOf i).toNat)
  case atStart => exact ⟨0, none, 0, by omega, rfl, rfl, World.ownsRow_nil _ _ _ _, Below.refl _ _⟩
  case round =>
    obtain ⟨k, a3, cp, hk, rfl, rfl, hr, hB⟩ := hrel
    have hpl := hB.size
    have hpp : p ≤ wr.heap.size := by rw [hp.out] at hpl; exact hpl
    by_cases hlt : k < n
    · have hki : (k : Int) < n := by omega
      have hkC : k < C.length := by rw [hn.out]; exact hlt
      obtain ⟨b, off, rfl, hcs⟩ := hS.resolve_left (fun e => by rw [e] at hkC; simp at hkC)
      have hup : Hid (cesV (C.take (k + 1)) = cesV (C.take k) ++ ceR (C.getD k noCe)) := by
        show _ = _
        rw [List.take_succ_eq_append_getElem hkC, ces_more]
        simp [List.getD, hkC]
      have hb0 := hcs k hkC
      generalize C.getD k noCe = x at *
      obtain ⟨K, Z, Q, T⟩ := x
      obtain ⟨c0, c1, c2, c3⟩ := hb0
      dsimp only at c0 c1 c2 c3 hup
      replace c0 := below_cell (hp.out ▸ hB) c0
      replace c1 := below_cell (hp.out ▸ hB) c1
      replace c2 := below_cell (hp.out ▸ hB) c2
      replace c3 := below_cell (hp.out ▸ hB) c3

      unfold ceR at hup
      dsimp only at hup
      replace hB : Hid (Below p w wr) := hB
      clear hcs hS hkC hpl
      go_wp2_with (first
        | (at_builtin; refine wpList_app _ rfl (.tmp 12) (.tmp 22) 34 rfl p 68 iw zw 4 40 Try.underlying34 i1 i2 i4 i5 i3 (by decide) (.slice a3 k cp) k _ rfl ((hr.alloc _).alloc _) (some ⟨wr.heap.size + 1, 0, none⟩) 1 1 [.int .i64 K, .int .i64 Z, .int .i64 Q, .string T] rfl rfl (.inr ⟨_, 0, rfl, fun j u hj => new_at _ _ _ _ (by simp) j u hj⟩) (fun u hu => by simp at hu; rcases hu with rfl | rfl | rfl | rfl <;> rfl) (by unfold maxLen; omega) (by omega) (by simp; omega) ?_; intro v5 w5 hv5 hg5 hk5 hl5)
        | fail)
      obtain ⟨a5, c5, rfl, _⟩ := own_reads hv5
      refine ⟨⟨k + 1, a5, c5, hlt, by simp, rfl, ?_, ?_⟩, meas_up hlt⟩
      · rw [hup.out]
        exact hv5
      · exact (hB.out.trans (((((Grew.refl wr).alloc _ _).alloc _ _).below).mono hpp)).trans ((grown_but hg5).below (fun i e => (hr.lt i e).1) (by simp; omega))
    · have hki : ¬ (k : Int) < n := by omega
      obtain rfl : k = n := by omega
      rw [List.take_of_length_le (by rw [hn.out]; omega)] at hr
      replace hB : Hid (Below p w wr) := hB
      go_wp2
      go_ret
      exact ⟨_, rfl, hr, hB.out⟩
set_option maxHeartbeats 1000000 in
theorem same_cell (A B : List Ce) (a b : Option Addr) (c d : Nat) (w : World) (hA : CellsAt w a A) (hB : CellsAt w b B) (h1 : A.length ≤ 1000000) (h2 : B.length ≤ 1000000) :
    Calls Try.prog 26 #[.slice a A.length c, .slice b B.length d] w fun e w' => IsB e (A = B) ∧ Below w.heap.size w w' := by
  have hC : Hid (Calls Try.prog 15 #[.slice a A.length c] w fun e w' => ∃ a' c', e = .returned (.slice a' A.length c') ∧ CellsAt w' a' A ∧ Below w.heap.size w w') := by
    refine (conv_cell A a c w hA h1).mono fun e w' ⟨v, q1, q2, q3⟩ => ?_
    obtain ⟨a', c', rfl, q4⟩ := cells_of q2
    exact ⟨a', c', q1, q4, q3⟩
  obtain ⟨n, hn⟩ : ∃ n, A.length = n := ⟨_, rfl⟩
  obtain ⟨m, hm⟩ : ∃ m, B.length = m := ⟨_, rfl⟩
  rw [hn] at hC ⊢
  rw [hm]
  rw [hn] at h1
  rw [hm] at h2
  replace hn : Hid (A.length = n) := hn
  replace hm : Hid (B.length = m) := hm
  have hnB : Hid (n ≠ m → ¬ A = B) := fun h e => h (by rw [← hn.out, ← hm.out, e])
  clear hA
  go_enter Try.func26, Try.ntmps26
  go_wp2_with (first
    | (go_at_call 15; go_fit hC.out; rintro e w1 ⟨a1, c1, rfl, hA1, B1⟩)
    | fail)
  have hB1 : CellsAt w1 b B := hB.below B1
  clear hB hC
  go_loopw [11] (fun i wr => ∃ k j : Nat, k ≤ n ∧ i = .int .i64 k ∧ wr = w1.drewN j ∧ A.take k = B.take k ∧ k ≤ m) (fun i _ => n - (intOf i).toNat)
  case atStart => exact ⟨0, 0, by omega, rfl, rfl, rfl, by omega⟩
  case round =>
    obtain ⟨k, j, hk, rfl, HW, ht, hkm⟩ := hrel
    replace ht : Hid (A.take k = B.take k) := ht
    have hA2 : CellsAt wr a1 A := by rw [HW]; exact hA1
    have hB2 : CellsAt wr b B := by rw [HW]; exact hB1
    replace HW : Hid (wr = w1.drewN j) := HW
    have hE : Hid (Below w.heap.size w (w1.drewN j)) := B1.trans ⟨rfl, rfl, rfl, Nat.le_refl _, fun _ _ => rfl⟩
    clear hA1 hB1
    by_cases hlt : k < n
    · have hki : (k : Int) < n := by omega
      by_cases hlm : m ≤ k
      · have hlmi : (m : Int) ≤ k := by omega
        have hlmN : decide ((m : Int) ≤ k) = true := decide_eq_true hlmi
        have hlmM : decide (m ≤ k) = true := decide_eq_true hlm
        have hF : Hid _ := hnB.out (by omega)
        clear hA2 hB2 hnB
        go_upto_region 5 with (fail)
        go_quiet (fail)
        go_wp2_with (fail)
        go_ret
        refine ⟨⟨false, rfl, iff_of_false (by decide) hF.out⟩, ?_⟩
        rw [HW.out]
        exact hE.out.trans ⟨rfl, rfl, rfl, Nat.le_refl _, fun _ _ => rfl⟩
      · have hlmi : ¬ (m : Int) ≤ k := by omega
        have hlmN : decide ((m : Int) ≤ k) = false := decide_eq_false hlmi
        have hlmM : decide (m ≤ k) = false := decide_eq_false hlm
        have hkmi : (k : Int) < m := by omega
        have hkA : k < A.length := by rw [hn.out]; exact hlt
        have hkB : k < B.length := by rw [hm.out]; omega
        obtain ⟨x0, o0, rfl, hcs⟩ := hA2.resolve_left (fun e => by rw [e] at hkA; simp at hkA)
        obtain ⟨y0, o1, rfl, hds⟩ := hB2.resolve_left (fun e => by rw [e] at hkB; simp at hkB)
        have ha := hcs k hkA
        have hb := hds k hkB
        have hst : Hid (A.getD k noCe = B.getD k noCe → A.take (k + 1) = B.take (k + 1)) := take_same noCe A B hkA hkB ht.out
        have hdf : Hid (¬ A.getD k noCe = B.getD k noCe → ¬ A = B) := fun h e => h (by rw [e])
        generalize A.getD k noCe = x at *
        generalize B.getD k noCe = y at *
        obtain ⟨K, Z, Q, T⟩ := x
        obtain ⟨L, X, P, U⟩ := y
        obtain ⟨c0, c1, c2, c3⟩ := ha
        obtain ⟨d0, d1, d2, d3⟩ := hb
        dsimp only at c0 c1 c2 c3 d0 d1 d2 d3
        clear hcs hds hnB ht hkA hkB hlm
        by_cases e : (⟨K, Z, Q, T⟩ : Ce) = ⟨L, X, P, U⟩
        · have hT : Hid _ := hst.out e
          simp only [Ce.mk.injEq] at e
          obtain ⟨rfl, rfl, rfl, rfl⟩ := e
          have he : ∀ W, (binOp .neq 68 (.agg #[.int .i64 K, .int .i64 Z, .int .i64 Q, .string T]) (.agg #[.int .i64 K, .int .i64 Z, .int .i64 Q, .string T])).run Try.prog W = .ok (.bool false) W := fun W => by rw [eq_cell]; simp
          clear hst hdf
          go_upto_region 5 with (fail)
          go_quiet (fail)
          go_wp2_with (fail)
          refine ⟨⟨k + 1, _, hlt, by simp, by rw [HW.out, World.drewN_drewN], hT.out, by omega⟩, meas_up hlt⟩
        · have hF : Hid _ := hdf.out e
          have he : ∀ W, (binOp .neq 68 (.agg #[.int .i64 K, .int .i64 Z, .int .i64 Q, .string T]) (.agg #[.int .i64 L, .int .i64 X, .int .i64 P, .string U])).run Try.prog W = .ok (.bool true) W := fun W => by
            rw [eq_cell]
            simp only [Ce.mk.injEq] at e
            by_cases h1 : K = L <;> by_cases h2 : Z = X <;> by_cases h3 : Q = P <;> by_cases h4 : T = U <;> simp [h1, h2, h3, h4] at e ⊢
            simpa using bytes_ne' h4
          clear hst hdf e
          go_upto_region 5 with (fail)
          go_quiet (fail)
          go_wp2_with (fail)
          go_ret
          refine ⟨⟨false, rfl, iff_of_false (by decide) hF.out⟩, ?_⟩
          rw [HW.out]
          exact hE.out.trans ⟨rfl, rfl, rfl, Nat.le_refl _, fun _ _ => rfl⟩
    · have hki : ¬ (k : Int) < n := by omega
      obtain rfl : k = n := by omega
      have hF : Hid (((k : Int) == (m : Int)) = true ↔ A = B) := by
        show _ ↔ _
        by_cases e : k = m
        · have h := ht.out
          rw [List.take_of_length_le (by rw [hn.out]; omega), List.take_of_length_le (by rw [hm.out]; omega)] at h
          exact iff_of_true (by simp [e]) h
        · exact iff_of_false (by simp; omega) (hnB.out e)
      clear hA2 hB2 hnB
      go_wp2_with (fail)
      go_ret
      refine ⟨⟨_, rfl, hF.out⟩, ?_⟩
      rw [HW.out]
      exact hE.out
end Go.Proofs.Ytjcocmoidboamaa
