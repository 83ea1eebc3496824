/-
  What package platter's New does.
-/
import Derived.Test.YtbkkhafckkndfaaGreatPk01
import Derived.Test.YtbkkhafckkndfaaGreatPxTBuild
import Derived.Deep.Cut
namespace Go.Proofs.YtbkkhafckkndfaaGreat
open Go Go.RowKit

theorem made_pages (k : Nat) (z : Array Value) (hz : z.toList = List.replicate 128 (.int .u8 0)) : (madeCells z (k * 128)).toList = pagesV (List.replicate k (zerosB 128)) := by
  have hs : z.size = 128 := by rw [← Array.length_toList, hz]; simp
  have hp : pgV (zerosB 128) = List.replicate 128 (Value.int .u8 0) := by
    unfold pgV zerosB
    simp only [List.map_replicate]
    rfl
  have hl : ∀ x ∈ List.replicate k (zerosB 128), x.size = 128 := fun x hx => by rw [(List.mem_replicate.1 hx).2, zerosB_size]
  apply List.ext_getElem?
  intro j
  by_cases hj : j < k * 128
  · have h1 : (madeCells z (k * 128)).toList[j]? = some (.int .u8 0) := by
      have : z[j % 128]! = .int .u8 0 := by
        have hq : z[j % 128]? = some (.int .u8 0) := by rw [← Array.getElem?_toList, hz, List.getElem?_replicate, if_pos (Nat.mod_lt _ (by decide))]
        rw [getElem!_def, hq]
      simp [madeCells, hj, hs, this]
    have h2 : (pagesV (List.replicate k (zerosB 128)))[j]? = some (.int .u8 0) := by
      have hq := flat_got 128 _ (j / 128) (pgV (zerosB 128)) (pages_len hl) (by rw [List.getElem?_map, List.getElem?_replicate, if_pos (by omega)]; rfl) (j % 128) (.int .u8 0) (by rw [hp, List.getElem?_replicate, if_pos (Nat.mod_lt _ (by decide))])
      rw [← pages_rows, show j / 128 * 128 + j % 128 = j by omega] at hq
      exact hq
    rw [h1, h2]
  · rw [List.getElem?_eq_none (by simp [size_madeCells]; omega), List.getElem?_eq_none (by rw [pages_size hl]; simp; omega)]

theorem tnew_at (w : World) (k : Nat) (h0 : 0 < k) (h1 : k ≤ 200) (cz : Array Value) (hc : cz.toList = pagesV (List.replicate k (zerosB 128))) (g1 g2 : Nat) (hg : (g1 = w.heap.size ∧ g2 = w.heap.size + 1) ∨ (g1 = w.heap.size + 1 ∧ g2 = w.heap.size)) :
    PAt (((w.alloc (.cells cz 62)).alloc (.cells cz 62)).alloc (.cells #[.slice (some ⟨g1, 0, none⟩) k k, .slice (some ⟨g2, 0, none⟩) k k, .slice none 0 0, .int .i64 (-1), .bool false] 54)) w.heap.size (w.heap.size + 1 + 1) g1 k g2 k none 0 (newP k) := by
  have hs : cz.size = k * 128 := by
    rw [← Array.length_toList, hc, pages_size (fun x hx => by rw [(List.mem_replicate.1 hx).2, zerosB_size])]
    simp
  have hl : (newP k).now.length = k := by simp [newP]
  have r : ∀ (W : World), w.heap.size ≤ W.heap.size → (W.alloc (.cells cz 62)).ownsRow w.heap.size 62 128 (.slice (some ⟨W.heap.size, 0, none⟩) k k) k (pagesV (List.replicate k (zerosB 128))) := fun W hW => by
    rw [← hc]
    exact World.ownsRow_lit W cz k hW (by unfold maxLen; omega) hs
  have ra := (r w (Nat.le_refl _)).alloc (.cells cz 62)
  have rb := r (w.alloc (.cells cz 62)) (by simp)
  have sz : (w.alloc (.cells cz 62)).heap.size = w.heap.size + 1 := by simp
  rw [sz] at rb
  have hb := heap_alloc_new ((w.alloc (.cells cz 62)).alloc (.cells cz 62)) (.cells #[.slice (some ⟨g1, 0, none⟩) k k, .slice (some ⟨g2, 0, none⟩) k k, .slice none 0 0, .int .i64 (-1), .bool false] 54)
  have sz2 : ((w.alloc (.cells cz 62)).alloc (.cells cz 62)).heap.size = w.heap.size + 1 + 1 := by simp
  rw [sz2] at hb
  rcases hg with ⟨rfl, rfl⟩ | ⟨rfl, rfl⟩
  · exact ⟨by omega, by rw [hl]; exact hb, by rw [hl]; exact ra.alloc _, by rw [hl]; exact rb.alloc _, ⟨rfl, .inl ⟨rfl, rfl⟩⟩, by omega, newP_ok h0 h1⟩
  · exact ⟨by omega, by rw [hl]; exact hb, by rw [hl]; exact rb.alloc _, by rw [hl]; exact ra.alloc _, ⟨rfl, .inl ⟨rfl, rfl⟩⟩, by omega, newP_ok h0 h1⟩

theorem new_no (w : World) (n : Int) (h : n < 1 ∨ 200 < n) : Calls Tryz.prog 5 #[.int .i64 n] w fun e w' => e = .returned (.pointer none) ∧ w' = w := by
  go_enter Tryz.func5, Tryz.ntmps5
  by_cases h1 : n < 1
  · go_wp2
    go_ret
    exact ⟨rfl, rfl⟩
  · have h2 : 200 < n := by omega
    go_wp2
    go_ret
    exact ⟨rfl, rfl⟩
/-- What New makes. -/
def Newed (w : World) (k : Nat) (e : Ending) (w' : World) : Prop :=
  ∃ b g1 g2, e = .returned (.pointer (some ⟨b, 0, none⟩)) ∧ PAt w' w.heap.size b g1 k g2 k none 0 (newP k) ∧ Grew w w'
set_option maxHeartbeats 1000000 in
theorem new_any (w : World) (k : Nat) (h0 : 0 < k) (h1 : k ≤ 200) : Calls Tryz.prog 5 #[.int .i64 (k : Int)] w fun e w' => Newed w k e w' := by
  obtain ⟨i, z, i1, i2, i3, i4, i5⟩ := infoPage
  obtain ⟨cz, hcz⟩ : ∃ cz, cz = madeCells z (k * 128) := ⟨_, rfl⟩
  have hc : Hid (cz.toList = pagesV (List.replicate k (zerosB 128))) := by rw [hcz]; exact made_pages k z i3
  have hmk : ∀ W, (Instr.makeSlice 51 (.int .i64 (k : Int)) (.int .i64 (k : Int))).run Tryz.prog W = .ok (.slice (some ⟨W.heap.size, 0, none⟩) k k) (W.alloc (.cells cz 62)) := fun W => by
    have := run_make (P := Tryz.prog) W 51 62 i (.agg z) Tryz.underlying51 i1 i2 .i64 .i64 k k (by omega) (Int.le_refl _) (by rw [i5]; omega) (by omega)
    rw [i4] at this
    simp only [Int.toNat_natCast] at this
    rw [hcz]
    exact this
  clear hcz i1 i2 i3 i4 i5
  have n1 : ¬ (k : Int) < 1 := by omega
  have n2 : ¬ 200 < (k : Int) := by omega
  go_enter Tryz.func5, Tryz.ntmps5
  go_upto_region 3 with (fail)
  go_region
  all_goals (go_wp2; go_ret)
  · refine ⟨_, _, _, rfl, (tnew_at w k h0 h1 cz hc.out _ _ (.inl ⟨rfl, rfl⟩)).but (S := fun _ => False) (Grew.but (Grew.refl _).drew) (fun _ _ e => e), ((((Grew.refl w).alloc _ _).alloc _ _).alloc _ _).drew⟩
  · refine ⟨_, _, _, rfl, (tnew_at w k h0 h1 cz hc.out _ _ (.inr ⟨rfl, rfl⟩)).but (S := fun _ => False) (Grew.but (Grew.refl _).drew) (fun _ _ e => e), ((((Grew.refl w).alloc _ _).alloc _ _).alloc _ _).drew⟩
end Go.Proofs.YtbkkhafckkndfaaGreat
