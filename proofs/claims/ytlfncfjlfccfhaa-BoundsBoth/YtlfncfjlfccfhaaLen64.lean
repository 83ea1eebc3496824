/-
  What math/bits.Len64 does: how many bits a uint64 has; the world is as it was.
-/
import Derived.Test.YtlfncfjlfccfhaaMul64
import Derived.Lib.BitFns
import Derived.Lib.Small
import Derived.Lib.Walk
namespace Go.Proofs.Ytlfncfjlfccfhaa
open Go.RowKit

theorem tab_size : Lib.len8tab.size = 256 := by decide +kernel
theorem tab_fin : ∀ k : Fin 256, (Lib.len8tab[k.val]'(by rw [tab_size]; exact k.isLt)).toNat = Lib.bitLen k.val := by decide +kernel
theorem tab_at (k : Int) (h0 : 0 ≤ k) (h1 : k < 256) (h : k.toNat < Lib.len8tab.size) : wrap64 ((Lib.len8tab[k.toNat]'h).toNat : Int) = (Lib.bitLen k.toNat : Int) ∧ Lib.bitLen k.toNat ≤ 8 := by
  have e : (Lib.len8tab[k.toNat]'h).toNat = Lib.bitLen k.toNat := tab_fin ⟨k.toNat, by omega⟩
  have l := Lib.bitLen_le8' k h0 (by omega)
  rw [e, wrap64_of]
  exact ⟨by omega, l⟩

theorem tab_sum (X : Nat) (c k : Int) (h0 : 0 ≤ k) (h1 : k < 256) (h : k.toNat < Lib.len8tab.size) (c0 : 0 ≤ c) (c1 : c ≤ 56) (s : (Lib.bitLen X : Int) = c + Lib.bitLen k.toNat) :
    wrap64 (c + wrap64 ((Lib.len8tab[k.toNat]'h).toNat : Int)) = (Lib.bitLen X : Int) := by
  obtain ⟨t1, t2⟩ := tab_at k h0 h1 h
  rw [t1, s, wrap64_of]; omega

/-- So far a number can be shifted up within 64 bits. -/
theorem bitLenAux_bounds : ∀ (f x : Nat), x < 2 ^ f → 1 ≤ x → 1 ≤ Lib.bitLenAux f x ∧ Lib.bitLenAux f x ≤ f ∧ 2 ^ (Lib.bitLenAux f x - 1) ≤ x ∧ x < 2 ^ Lib.bitLenAux f x
  | 0, x, h, h1 => by simp at h; omega
  | f + 1, x, h, h1 => by
    rw [Lib.bitLenAux, if_neg (by omega)]
    by_cases g : x / 2 = 0
    · have : Lib.bitLenAux f (x / 2) = 0 := by rw [g]; cases f <;> simp [Lib.bitLenAux]
      rw [this]
      have : x = 1 := by omega
      subst this
      simp
    · have r := bitLenAux_bounds f (x / 2) (by rw [Nat.pow_succ] at h; omega) (by omega)
      obtain ⟨r1, r2, r3, r4⟩ := r
      refine ⟨by omega, by omega, ?_, ?_⟩
      · rw [show 1 + Lib.bitLenAux f (x / 2) - 1 = Lib.bitLenAux f (x / 2) - 1 + 1 by omega, Nat.pow_succ]; omega
      · rw [show 1 + Lib.bitLenAux f (x / 2) = Lib.bitLenAux f (x / 2) + 1 by omega, Nat.pow_succ]; omega

end Go.Proofs.Ytlfncfjlfccfhaa
