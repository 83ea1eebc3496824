/-
  What prune.Sorted does: the places by their left edges, in a slice of its own; nothing that was there is written.
-/
import Derived.Test.YtnkhknmpffcfbaaGreatPSort
import Derived.OwnWalk
import Derived.Laws.EntriesVeiled
namespace Go.Proofs.YtnkhknmpffcfbaaGreat
open Go.RowKit

theorem info_int : (Tryz.prog.info? 3).map (fun i => (i.zero, i.size, i.bytes)) = some (some (.int .i64 0), 1, 8) := by kernel_rfl
theorem mkf (fn : Fn) (first cap : Array Value) (w : World) : (Instr.makeFunc fn first cap).run Tryz.prog w = .ok (.func fn first cap) w := rfl

/-- The places so far, and zeros. -/
def upto (n k : Nat) : List Value := (List.range k).map natV ++ List.replicate (n - k) (.int .i64 0)
theorem upto_all (n : Nat) : upto n n = (List.range n).map natV := by unfold upto; simp
theorem upto_none (n : Nat) : upto n 0 = List.replicate n (.int .i64 0) := by unfold upto; simp
theorem upto_set {n k : Nat} (h : k < n) : (upto n k).set k (natV k) = upto n (k + 1) := by
  unfold upto
  rw [List.set_append_right _ _ (by simp), List.range_succ, List.map_append, List.length_map, List.length_range, Nat.sub_self]
  obtain ⟨m, hm⟩ : ∃ m, n - k = m + 1 := ⟨n - k - 1, by omega⟩
  rw [hm, show n - (k + 1) = m by omega, List.replicate_succ]
  simp
theorem upto_get {n k : Nat} (h : k < n) : (upto n k)[k]? = some (.int .i64 0) := by
  unfold upto
  rw [List.getElem?_append_right (by simp), List.getElem?_replicate, if_pos (by simp; omega)]

set_option maxHeartbeats 2000000 in
theorem sorted_any (L : List Bx) (a : Option Addr) (cap : Nat) (w : World) (hL : Boxes w a L) (hn : L.length ≤ 1000) :
    Calls Tryz.prog 88 #[.slice a L.length cap] w fun e w' => (∃ g S, e = .returned (.slice (some ⟨g, 0, none⟩) L.length L.length) ∧ IsSorted L S ∧
      w'.ownsRow w.heap.size 3 1 (.slice (some ⟨g, 0, none⟩) L.length L.length) L.length (S.map natV)) ∧ Below w.heap.size w w' := by
  have hmf := mkf
  obtain ⟨i0, hi0, hz0, hz1, hz2⟩ := info_parts info_int
  go_enter Tryz.func88, Tryz.ntmps88
  go_wp2_with (first
    | (at_make; refine wpList_make_full _ rfl _ _ 119 rfl w.heap.size 3 i0 (.int .i64 0) 1 Tryz.underlying119 hi0 hz0 hz1 .i64 .i64 _ _ L.length rfl rfl rfl rfl (by rw [hz2]; omega) (by unfold maxLen; omega) (by simp) ?_; intro w1 ho1 hg1))
  have e1 : (w.alloc (Obj.cells #[Value.slice a L.length cap] 108)).heap.size = w.heap.size + 1 := by simp
  rw [e1] at ho1
  have ho2 : w1.ownsRow w.heap.size 3 1 (.slice (some ⟨w.heap.size + 1, 0, none⟩) L.length L.length) L.length (upto L.length 0) := by
    have e2 := toList_madeCells_one (.int .i64 0) L.length
    rw [upto_none, ← e2]
    rw [Nat.mul_one] at ho1
    exact ho1
  have hB1 : Below w.heap.size w w1 := ((Below.refl _ w).alloc (Nat.le_refl _) _).grown hg1 (by simp) (fun k h => by cases h)
  have hp1 : w1.cell? ⟨w.heap.size, 0, none⟩ = some (.slice a L.length cap) := hg1.cell (by simp [go_sem]) (by simp)
  clear ho1 hg1 e1
  go_loopw [10] (fun i wr => ∃ k : Nat, k ≤ L.length ∧ i = .int .i64 k ∧ wr.ownsRow w.heap.size 3 1 (.slice (some ⟨w.heap.size + 1, 0, none⟩) L.length L.length) L.length (upto L.length k) ∧ wr.cell? ⟨w.heap.size, 0, none⟩ = some (.slice a L.length cap) ∧ Below w.heap.size w wr) (fun i _ => L.length - (intOf i).toNat)
  case atStart => exact ⟨0, by omega, rfl, ho2, hp1, hB1⟩
  case round =>
    obtain ⟨k, hk, rfl, ho, hp, hB⟩ := hrel
    by_cases hlt : k < L.length
    · have hi : (k : Int) < (L.length : Int) := by omega
      have hc := (ho.cellAt k (by omega)).trans (upto_get hlt)
      have hf := ho.frozenAt k
      have h2 : (wr.setCell ⟨w.heap.size + 1, k, none⟩ (natV k)).cell? ⟨w.heap.size, 0, none⟩ = some (.slice a L.length cap) := by rw [World.cell?_setCell_other _ _ _ _ (by simp)]; exact hp
      have h1 := (ho.stored k (natV k)).1
      rw [upto_set hlt] at h1
      have R := And.intro h1 (And.intro h2 (hB.setCell (p := ⟨w.heap.size + 1, k, none⟩) (by simp) (natV k)))
      have R : Hid _ := R
      clear h1 h2
      clear ho hp hB ho2 hp1 hB1
      go_wp2
      refine ⟨⟨k + 1, by omega, rfl, R.out.1, R.out.2.1, R.out.2.2⟩, ?_⟩
      simp [intOf]; omega
    · have hi : ¬ (k : Int) < (L.length : Int) := by omega
      obtain rfl : k = L.length := by omega
      rw [upto_all] at ho
      have hLr := hL.below hB
      clear ho2 hp1 hB1
      by_cases h0 : L.length = 0
      · obtain rfl := List.eq_nil_of_length_eq_zero h0
        have hN := fun W => AnyF.slices_SortFunc_none (P := Tryz.prog) (ρ := Tryz.sortI_ren) { Tryz.sortI with } (some ⟨w.heap.size + 1, 0, none⟩) 0 (.func (.func 106) #[] #[.pointer (some ⟨w.heap.size, 0, none⟩)]) W
        change ∀ W, Calls Tryz.prog 105 _ _ _ at hN
        simp only [List.length_nil] at *
        clear hn hk hlt hi
        go_wp2_with (first
          | (go_at_call 105; go_fit (hN _); rintro e V ⟨rfl, rfl⟩))
        go_ret
        exact ⟨⟨_, [], rfl, ⟨List.Perm.refl _, List.Pairwise.nil⟩, ho⟩, hB⟩
      · go_wp2_with (first
          | (go_at_call 105; go_fit (sorti_any L a cap w.heap.size (w.heap.size + 1) w.heap.size _ hLr (by omega) (by omega) hp (by omega) (fun b off e => by obtain ⟨b', off', e', hb', _⟩ := hL.block (by omega); rw [e'] at e; cases e; omega) ho); rintro e V ⟨rfl, ⟨S, hS, hO⟩, hG⟩))
        go_ret
        exact ⟨⟨_, S, rfl, hS, hO⟩, hB.grown hG hB.size (fun k h => by cases h; omega)⟩
end Go.Proofs.YtnkhknmpffcfbaaGreat
