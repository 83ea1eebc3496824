/-
  The document's own platter: its Load.
-/
import Derived.Test.YtbkkhafckkndfaaGreatPxTRefMem
namespace Go.Proofs.YtbkkhafckkndfaaGreat
open Go Go.RowKit

theorem meas_down (j : Nat) : (intOf (Value.int IntKind.i64 ((j : Int) - 1)) + 1).toNat < (intOf (Value.int IntKind.i64 (((j + 1 : Nat) : Int) - 1)) + 1).toNat := by
  show ((j : Int) - 1 + 1).toNat < (((j + 1 : Nat) : Int) - 1 + 1).toNat
  omega
section
variable {w : World} {base b c1 c2 : Nat} {a1 a2 : Option Addr} {R : Rp}
set_option maxRecDepth 10000 in
set_option maxHeartbeats 2000000 in
theorem rload_any (h : RAt w base b a1 c1 a2 c2 R) (n : Int) : Calls Tryz.prog 38 #[.pointer (some ⟨b, 0, none⟩), .int .i64 n] w fun e w' => e = .returned (.tuple #[.string (loadQ R n).1, .int .i64 (loadQ R n).2]) ∧ w' = w := by
  have k0 := h.k0
  have k1 := h.k1
  have k2 := h.k2
  go_enter Tryz.func38, Tryz.ntmps38
  by_cases hd : R.dead = true
  · have e : loadQ R n = (ByteArray.empty, 7) := by unfold loadQ; rw [if_pos hd]
    rw [e]
    rw [hd] at k2
    go_wp2
    go_ret2
    exact ⟨rfl, rfl⟩
  have hd' : R.dead = false := by simpa using hd
  rw [hd'] at k2
  by_cases hn : 0 ≤ n ∧ n < R.last.length
  rotate_left
  · have e : loadQ R n = (ByteArray.empty, 6) := by unfold loadQ; rw [if_neg hd, if_neg hn]
    rw [e]
    by_cases h0 : n < 0
    · go_wp2
      go_ret2
      exact ⟨rfl, rfl⟩
    · have h1 : (R.last.length : Int) ≤ n := by omega
      go_wp2
      go_ret2
      exact ⟨rfl, rfl⟩
  have e : loadQ R n = (pg (settleL R.float R.last) n.toNat, 0) := by unfold loadQ; rw [if_neg hd, if_pos hn]
  rw [e]
  clear e
  obtain ⟨k, rfl⟩ := Int.eq_ofNat_of_zero_le hn.1
  have hk : k < R.last.length := by omega
  have hki : (k : Int) < R.last.length := hn.2
  have hk0 : ¬ (k : Int) < 0 := by omega
  have hmany := h.ok.many
  have hw : wrap64 ((R.float.length : Int) - 1) = R.float.length - 1 := IntWalk.wrap64_in _ ⟨by omega, by omega⟩
  rw [Int.toNat_natCast]
  go_wp2
  go_loopw [6] (fun i wr => ∃ j : Nat, j ≤ R.float.length ∧ i = .int .i64 ((j : Int) - 1) ∧ wr = w ∧ Hid (∀ q y, j ≤ q → R.float[q]? = some y → y.n ≠ k)) (fun i _ => (intOf i + 1).toNat)
  case atStart =>
    refine ⟨R.float.length, Nat.le_refl _, by first | rfl | (rw [hw]), rfl, fun q y hq hy => ?_⟩
    have := (List.getElem?_eq_some_iff.1 hy).1
    omega
  case round =>
    obtain ⟨j, hj, rfl, rfl, hno⟩ := hrel
    cases j with
    | zero =>
      obtain ⟨g, rfl, hc⟩ := h.page hk
      have e : pg (settleL R.float R.last) k = pg R.last k := settle_none _ _ _ (fun x hx => (h.ok.float x hx).1) (fun x hx => by
        obtain ⟨q, hq, e⟩ := List.mem_iff_getElem.1 hx
        exact hno.out q x (Nat.zero_le _) (by rw [List.getElem?_eq_getElem hq, e]))
      obtain ⟨v, hv⟩ : ∃ v, v = pg R.last k := ⟨_, rfl⟩
      rw [← hv] at hc e
      replace e : Hid (pg (settleL R.float R.last) k = v) := e
      clear hv hno hw
      go_wp2
      go_ret2
      refine ⟨?_, rfl⟩
      rw [e.out]
      rfl
    | succ j =>
      obtain ⟨x, hx⟩ : ∃ x, R.float[j]? = some x := ⟨_, List.getElem?_eq_getElem (by omega)⟩
      obtain ⟨g, rfl, hc0, hc1⟩ := h.st hx
      have ei : ((j + 1 : Nat) : Int) - 1 = j := by omega
      have hji : (j : Int) < R.float.length := by omega
      have hj0 : ¬ (j : Int) < 0 := by omega
      have hw2 : wrap64 ((j : Int) - 1) = j - 1 := IntWalk.wrap64_in _ ⟨by omega, by omega⟩
      rw [ei]
      by_cases hxn : x.n = k
      · have e : pg (settleL R.float R.last) k = x.b := by
          rw [← hxn]
          exact settle_last _ _ (fun y hy => (h.ok.float y hy).1) j x hx (fun q y hq hy => by rw [hxn]; exact hno.out q y hq hy)
        replace e : Hid (pg (settleL R.float R.last) k = x.b) := e
        have hxb : ((x.n : Int) == (k : Int)) = true := by rw [hxn]; exact beq_self_eq_true _
        clear hno hw hx
        go_wp2
        go_ret2
        refine ⟨?_, rfl⟩
        rw [e.out]
        rfl
      · have hnew : Hid (∀ q y, j ≤ q → R.float[q]? = some y → y.n ≠ k) := fun q y hq hy => by
          by_cases e : q = j
          · rw [e, hx] at hy; cases hy; exact hxn
          · exact hno.out q y (by omega) hy
        have hxb : ((x.n : Int) == (k : Int)) = false := by rw [beq_eq_false_iff_ne]; omega
        clear hno hw hx
        go_wp2
        refine ⟨⟨j, by omega, by first | trivial | rfl | (rw [hw2]), by first | trivial | rfl, hnew⟩, ?_⟩
        have := meas_down j
        first
          | (rw [hw2]; rw [ei] at this; exact this)
          | (rw [ei] at this; exact this)
          | exact this
end
end Go.Proofs.YtbkkhafckkndfaaGreat
