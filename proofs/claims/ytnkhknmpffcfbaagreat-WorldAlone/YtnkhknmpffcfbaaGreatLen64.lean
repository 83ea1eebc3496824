/-
  What math/bits.Len64 does: how many bits a uint64 has; the world is as it was.
-/
import Derived.Test.YtnkhknmpffcfbaaGreatMul64
import Derived.Lib.BitFns
import Derived.Lib.Small
import Derived.Lib.Walk
namespace Go.Proofs.YtnkhknmpffcfbaaGreat
open Go.RowKit

theorem tab_size : Lib.len8tab.size = 256 := by decide +kernel
theorem tab_fin : ∀ k : Fin 256, (Lib.len8tab[k.val]'(by rw [tab_size]; exact k.isLt)).toNat = Lib.bitLen k.val := by decide +kernel
theorem tab_at (k : Int) (h0 : 0 ≤ k) (h1 : k < 256) (h : k.toNat < Lib.len8tab.size) : wrap64 ((Lib.len8tab[k.toNat]'h).toNat : Int) = (Lib.bitLen k.toNat : Int) ∧ Lib.bitLen k.toNat ≤ 8 := by
  have e : (Lib.len8tab[k.toNat]'h).toNat = Lib.bitLen k.toNat := tab_fin ⟨k.toNat, by omega⟩
  have l := Lib.bitLen_le8' k h0 (by omega)
  rw [e, wrap64_of]
  exact ⟨by omega, l⟩

theorem tab_sum (X : Nat) (c k : Int) (h0 : 0 ≤ k) (h1 : k < 256) (h : k.toNat < Lib.len8tab.size) (c0 : 0 ≤ c) (c1 : c ≤ 56) (s : (Lib.bitLen X : Int) = c + Lib.bitLen k.toNat) :
    wrap64 (c + wrap64 ((Lib.len8tab[k.toNat]'h).toNat : Int)) = (Lib.bitLen X : Int) := by
  obtain ⟨t1, t2⟩ := tab_at k h0 h1 h
  rw [t1, s, wrap64_of]; omega

/-- So far a number can be shifted up within 64 bits. -/
theorem bitLenAux_bounds : ∀ (f x : Nat), x < 2 ^ f → 1 ≤ x → 1 ≤ Lib.bitLenAux f x ∧ Lib.bitLenAux f x ≤ f ∧ 2 ^ (Lib.bitLenAux f x - 1) ≤ x ∧ x < 2 ^ Lib.bitLenAux f x
  | 0, x, h, h1 => by simp at h; omega
  | f + 1, x, h, h1 => by
    rw [Lib.bitLenAux, if_neg (by omega)]
    by_cases g : x / 2 = 0
    · have : Lib.bitLenAux f (x / 2) = 0 := by rw [g]; cases f <;> simp [Lib.bitLenAux]
      rw [this]
      have : x = 1 := by omega
      subst this
      simp
    · have r := bitLenAux_bounds f (x / 2) (by rw [Nat.pow_succ] at h; omega) (by omega)
      obtain ⟨r1, r2, r3, r4⟩ := r
      refine ⟨by omega, by omega, ?_, ?_⟩
      · rw [show 1 + Lib.bitLenAux f (x / 2) - 1 = Lib.bitLenAux f (x / 2) - 1 + 1 by omega, Nat.pow_succ]; omega
      · rw [show 1 + Lib.bitLenAux f (x / 2) = Lib.bitLenAux f (x / 2) + 1 by omega, Nat.pow_succ]; omega

set_option maxHeartbeats 1000000 in
set_option maxRecDepth 100000 in
theorem len64_any (x : Int) (w : World) (h0 : 0 ≤ x) (h1 : x ≤ 18446744073709551615) :
    Calls Tryz.prog 119 #[.int .u64 x] w fun e w' => e = .returned (.int .i64 (Lib.bitLen x.toNat)) ∧ w' = w := by
  have hz := tab_size
  go_enter Tryz.func119, Tryz.ntmps119
  go_wp2
  all_goals (go_ret; refine ⟨ret_int ?_, rfl⟩)
  · exact tab_sum _ 56 _ (by omega) (by omega) _ (by decide) (by decide) (by rw [Lib.bitLen_shift56 x.toNat (by omega) (by omega), show (x / 4294967296 / 65536 / 256).toNat = x.toNat / 72057594037927936 by omega]; omega)
  · exact tab_sum _ 48 _ (by omega) (by omega) _ (by decide) (by decide) (by rw [Lib.bitLen_shift48 x.toNat (by omega) (by omega), show (x / 4294967296 / 65536).toNat = x.toNat / 281474976710656 by omega]; omega)
  · exact tab_sum _ 40 _ (by omega) (by omega) _ (by decide) (by decide) (by rw [Lib.bitLen_shift40 x.toNat (by omega) (by omega), show (x / 4294967296 / 256).toNat = x.toNat / 1099511627776 by omega]; omega)
  · exact tab_sum _ 32 _ (by omega) (by omega) _ (by decide) (by decide) (by rw [Lib.bitLen_shift32 x.toNat (by omega) (by omega), show (x / 4294967296).toNat = x.toNat / 4294967296 by omega]; omega)
  · exact tab_sum _ 24 _ (by omega) (by omega) _ (by decide) (by decide) (by rw [Lib.bitLen_shift24 x.toNat (by omega) (by omega), show (x / 65536 / 256).toNat = x.toNat / 16777216 by omega]; omega)
  · exact tab_sum _ 16 _ (by omega) (by omega) _ (by decide) (by decide) (by rw [Lib.bitLen_shift16 x.toNat (by omega) (by omega), show (x / 65536).toNat = x.toNat / 65536 by omega]; omega)
  · exact tab_sum _ 8 _ (by omega) (by omega) _ (by decide) (by decide) (by rw [Lib.bitLen_shift8 x.toNat (by omega) (by omega), show (x / 256).toNat = x.toNat / 256 by omega]; omega)
  · obtain ⟨t1, t2⟩ := tab_at x h0 (by omega) (by omega)
    rw [t1, wrap64_of]; omega
end Go.Proofs.YtnkhknmpffcfbaaGreat
