/-
  cmp.Compare and cmp.Or as plain functions; a world that grew, with answers drawn (Ext). What package cmp's calls do. The two functions that package prune sorts by: of two pairs, of two places among boxes in memory. The library's contracts laid at this program: the numbers of its functions and types, field by field. Nothing of the library is walked anew. slices.SortFunc, by the library's contract, at the two functions that package prune hands it: what the sorted slice owns behind it. What world.boxes does: the box around each body, in a slice of its own, or a panic of a Fault; nothing that was there is written. What prune.Sorted does: the places by their left edges, in a slice of its own; nothing that was there is written.
-/
import Derived.Test.YtcoooehcgbohgaaGreatPk01
import Derived.Test.YtcoooehcgbohgaaGreatPk02
import Derived.Deep.DeepFit
import Derived.Sort.Grow
import Derived.LoopTactic
import Derived.Deep.RegionHeld2
import Derived.Test.YtcoooehcgbohgaaGreatRows
import Derived.Shelf.SlSortCmp.NoneTotal
import Derived.Test.YtcoooehcgbohgaaGreatPk06
import Derived.Test.YtcoooehcgbohgaaGreatPk03
import Derived.OwnWalk
import Derived.Deep.QuietTactic
import Derived.BigQuiet
import Derived.Deep.CutRange
import Derived.Deep.CutBlock
import Derived.Laws.EntriesVeiled
namespace Go.Proofs.YtcoooehcgbohgaaGreat
open Go.RowKit

def cmpI (a b : Int) : Int := if a < b then -1 else if b < a then 1 else 0
def orI (a b : Int) : Int := if a = 0 then b else a
theorem cmpI_lt {a b : Int} (h : a < b) : cmpI a b = -1 := if_pos h
theorem cmpI_gt {a b : Int} (h : b < a) : cmpI a b = 1 := by unfold cmpI; rw [if_neg (by omega), if_pos h]
theorem cmpI_eq {a b : Int} (h : a = b) : cmpI a b = 0 := by unfold cmpI; rw [if_neg (by omega), if_neg (by omega)]
theorem cmpI_in (a b : Int) : -1 ≤ cmpI a b ∧ cmpI a b ≤ 1 := by
  rcases Int.lt_trichotomy a b with h | h | h
  · rw [cmpI_lt h]; decide
  · rw [cmpI_eq h]; decide
  · rw [cmpI_gt h]; decide

/-- w' is w with more blocks, and answers drawn. -/
structure Ext (w w' : World) : Prop where
  below : Below w.heap.size w w'
  drawn : w.drawn ≤ w'.drawn
theorem Ext.refl (w : World) : Ext w w := ⟨Below.refl _ _, Nat.le_refl _⟩
theorem Ext.trans {a b c : World} (h : Ext a b) (g : Ext b c) : Ext a c := ⟨h.below.trans (g.below.mono h.below.size), Nat.le_trans h.drawn g.drawn⟩
theorem Ext.drew {a b : World} (h : Ext a b) : Ext a b.drew := ⟨h.below.drew, Nat.le_succ_of_le h.drawn⟩
theorem Ext.alloc {a b : World} (h : Ext a b) (o : Obj) : Ext a (b.alloc o) := ⟨h.below.alloc h.below.size o, h.drawn⟩
theorem Ext.setCell {a b : World} (h : Ext a b) {p : Addr} (hp : a.heap.size ≤ p.block) (v : Value) : Ext a (b.setCell p v) := ⟨h.below.setCell hp v, h.drawn⟩
theorem Ext.cell {w w' : World} (h : Ext w w') {p : Addr} {v : Value} (hc : w.cell? p = some v) : w'.cell? p = some v := (h.below.cell (cell_block hc)).trans hc
/-- .. so it is w with draws and blocks behind. -/
theorem Ext.grow {w w' : World} (h : Ext w w') : ∃ q os, w' = Go.Sort.grow (w.drewN q) os := by
  refine ⟨w'.drawn - w.drawn, w'.heap.extract w.heap.size w'.heap.size, ?_⟩
  obtain ⟨⟨h1, h2, h3, h4, h5⟩, h6⟩ := h
  have e : w'.heap = w.heap ++ w'.heap.extract w.heap.size w'.heap.size := by
    apply Array.ext_getElem?
    intro i
    by_cases hi : i < w.heap.size
    · rw [h5 i hi, Array.getElem?_append_left hi]
    · rw [Array.getElem?_append_right (by omega), Array.getElem?_extract]
      by_cases hj : i < w'.heap.size
      · rw [if_pos (by omega)]; congr 1; omega
      · rw [if_neg (by omega), Array.getElem?_eq_none (by omega)]
  cases w'
  simp only at h1 h2 h3 h4 h5 h6 e
  simp only [Go.Sort.grow, World.drewN, World.mk.injEq]
  refine ⟨e, h2, ?_, h1, h3⟩
  omega

theorem cmpint_any (a b : Int) (w : World) :
    Calls Tryz.prog 102 #[.int .i64 a, .int .i64 b] w fun e w' => e = .returned (.int .i64 (cmpI a b)) ∧ w' = w := by
  rcases Int.lt_trichotomy a b with h | h | h
  · rw [cmpI_lt h]
    go_enter Tryz.func102, Tryz.ntmps102
    go_wp2
    go_ret
    exact ⟨rfl, rfl⟩
  · rw [cmpI_eq h]
    subst h
    go_enter Tryz.func102, Tryz.ntmps102
    go_wp2
    go_ret
    exact ⟨rfl, rfl⟩
  · rw [cmpI_gt h]
    have h2 : ¬ a < b := by omega
    go_enter Tryz.func102, Tryz.ntmps102
    go_wp2
    go_ret
    exact ⟨rfl, rfl⟩

theorem cmpfix_any (a b : Int) (w : World) :
    Calls Tryz.prog 101 #[.int .i64 a, .int .i64 b] w fun e w' => e = .returned (.int .i64 (cmpI a b)) ∧ w' = w := by
  rcases Int.lt_trichotomy a b with h | h | h
  · rw [cmpI_lt h]
    go_enter Tryz.func101, Tryz.ntmps101
    go_wp2
    go_ret
    exact ⟨rfl, rfl⟩
  · rw [cmpI_eq h]
    subst h
    go_enter Tryz.func101, Tryz.ntmps101
    go_wp2
    go_ret
    exact ⟨rfl, rfl⟩
  · rw [cmpI_gt h]
    have h2 : ¬ a < b := by omega
    go_enter Tryz.func101, Tryz.ntmps101
    go_wp2
    go_ret
    exact ⟨rfl, rfl⟩

theorem or_any (b : Nat) (x y : Int) (cap : Nat) (w : World) (h0 : w.cell? ⟨b, 0, none⟩ = some (.int .i64 x)) (h1 : w.cell? ⟨b, 1, none⟩ = some (.int .i64 y)) :
    Calls Tryz.prog 100 #[.slice (some ⟨b, 0, none⟩) 2 cap] w fun e w' => e = .returned (.int .i64 (orI x y)) ∧ w' = w := by
  by_cases hx : x = 0
  · have hz : (x != 0) = false := by simpa using hx
    by_cases hy : y = 0
    · have hw : (y != 0) = false := by simpa using hy
      have ho : orI x y = 0 := by unfold orI; rw [if_pos hx, hy]
      rw [ho]
      clear hx hy
      go_enter Tryz.func100, Tryz.ntmps100
      go_wp2
      refine wp_loop_rounds 3 ?_
      iterate 3 (rw [rounds_succ]; go_wp2)
      go_ret
      exact ⟨rfl, rfl⟩
    · have hw : (y != 0) = true := by simpa using hy
      have ho : orI x y = y := by unfold orI; rw [if_pos hx]
      rw [ho]
      clear hx hy
      go_enter Tryz.func100, Tryz.ntmps100
      go_wp2
      refine wp_loop_rounds 3 ?_
      iterate 2 (rw [rounds_succ]; go_wp2)
      go_ret
      exact ⟨rfl, rfl⟩
  · have hz : (x != 0) = true := by simpa using hx
    have ho : orI x y = x := by unfold orI; rw [if_neg hx]
    rw [ho]
    clear hx
    go_enter Tryz.func100, Tryz.ntmps100
    go_wp2
    refine wp_loop_rounds 3 ?_
    iterate 1 (rw [rounds_succ]; go_wp2)
    go_ret
    exact ⟨rfl, rfl⟩
end Go.Proofs.YtcoooehcgbohgaaGreat

namespace Go.Proofs.YtcoooehcgbohgaaGreat
open Go.RowKit

set_option maxHeartbeats 1000000 in
theorem byp_any (a b c d : Int) (w : World) :
    Calls Tryz.prog 83 #[.agg #[.int .i64 a, .int .i64 b], .agg #[.int .i64 c, .int .i64 d]] w fun e w' => e = .returned (.int .i64 (orI (cmpI a c) (cmpI b d))) ∧ Ext w w' := by
  have G : Hid (∀ c1, Ext w ((((w.alloc (.cells #[.int .i64 a, .int .i64 b] 99)).alloc (.cells #[.int .i64 c, .int .i64 d] 99)).drew).alloc (.cells c1 3))) := fun c1 => (((Ext.refl w).alloc _).alloc _).drew.alloc _
  have k1 : Hid (∀ W, Calls Tryz.prog 102 #[.int .i64 a, .int .i64 c] W fun e w' => e = .returned (.int .i64 (cmpI a c)) ∧ w' = W) := fun W => cmpint_any _ _ W
  have k2 : Hid (∀ W, Calls Tryz.prog 102 #[.int .i64 b, .int .i64 d] W fun e w' => e = .returned (.int .i64 (cmpI b d)) ∧ w' = W) := fun W => cmpint_any _ _ W
  generalize cmpI a c = r at *
  generalize cmpI b d = t at *
  go_enter Tryz.func83, Tryz.ntmps83
  go_wp2_with (fail)
  go_region_held2 (fun w' => w'.cell? ⟨w.heap.size, 0, none⟩ = some (.int .i64 a) ∧ w'.cell? ⟨w.heap.size, 1, none⟩ = some (.int .i64 b) ∧ w'.cell? ⟨w.heap.size + 1, 0, none⟩ = some (.int .i64 c) ∧ w'.cell? ⟨w.heap.size + 1, 1, none⟩ = some (.int .i64 d)) (go_keep)
    (first
      | (go_at_call 102; go_fit (k1.out _); rintro e w' ⟨rfl, rfl⟩)
      | (go_at_call 102; go_fit (k2.out _); rintro e w' ⟨rfl, rfl⟩)
      | (go_at_call 100; refine (or_any _ r t _ _ (by simp [go_sem]) (by simp [go_sem])).mono ?_; rintro e w' ⟨rfl, rfl⟩))
  go_wp2
  go_ret
  exact ⟨rfl, (((Ext.refl w).alloc _).alloc _).alloc _ |>.drew⟩

set_option maxHeartbeats 1000000 in
theorem clo_any (p : Addr) (b off n cap : Nat) (i j : Nat) (x y : Int) (w : World) (hp : w.cell? p = some (.slice (some ⟨b, off, none⟩) n cap)) (hi : i < n) (hj : j < n)
    (hx : w.cell? ⟨b, off + i * 4, none⟩ = some (.int .i64 x)) (hy : w.cell? ⟨b, off + j * 4, none⟩ = some (.int .i64 y)) :
    Calls Tryz.prog 99 #[.int .i64 i, .int .i64 j, .pointer (some p)] w fun e w' => e = .returned (.int .i64 (orI (cmpI x y) (cmpI i j))) ∧ Ext w w' := by
  have k1 : Hid (∀ W, Calls Tryz.prog 101 #[.int .i64 x, .int .i64 y] W fun e w' => e = .returned (.int .i64 (cmpI x y)) ∧ w' = W) := fun W => cmpfix_any _ _ W
  have k2 : Hid (∀ W, Calls Tryz.prog 102 #[.int .i64 i, .int .i64 j] W fun e w' => e = .returned (.int .i64 (cmpI i j)) ∧ w' = W) := fun W => cmpint_any _ _ W
  generalize cmpI x y = r at *
  generalize cmpI i j = t at *
  have hi' : (i : Int) < (n : Int) := by omega
  have hj' : (j : Int) < (n : Int) := by omega
  go_enter Tryz.func99, Tryz.ntmps99
  go_wp2_with (fail)
  go_region_held2 (fun w' => w'.cell? p = some (.slice (some ⟨b, off, none⟩) n cap) ∧ w'.cell? ⟨b, off + i * 4, none⟩ = some (.int .i64 x) ∧ w'.cell? ⟨b, off + j * 4, none⟩ = some (.int .i64 y)) (go_keep)
    (first
      | (go_at_call 101; go_fit (k1.out _); rintro e w' ⟨rfl, rfl⟩)
      | (go_at_call 102; go_fit (k2.out _); rintro e w' ⟨rfl, rfl⟩)
      | (go_at_call 100; refine (or_any _ r t _ _ (by simp [go_sem]) (by simp [go_sem])).mono ?_; rintro e w' ⟨rfl, rfl⟩))
  go_wp2
  go_ret
  exact ⟨rfl, ((Ext.refl w).alloc _).drew⟩
end Go.Proofs.YtcoooehcgbohgaaGreat

namespace Go.Proofs.YtcoooehcgbohgaaGreat
open Go.Shelf

def Tryz.sortI_ren : Go.Shelf.Ren := ⟨fun | 6 => 98 | 15 => 105 | 14 => 116 | 28 => 127 | 29 => 112 | 20 => 133 | 21 => 134 | 22 => 135 | 23 => 136 | 24 => 137 | 25 => 138 | 26 => 139 | 27 => 140 | 46 => 148 | 47 => 142 | 48 => 143 | 49 => 149 | 50 => 150 | 57 => 152 | n => n, fun | 22 => 112 | 24 => 3 | 25 => 126 | 3 => 3 | 39 => 107 | 0 => 0 | 53 => 143 | 55 => 80 | 4 => 4 | 46 => 136 | 45 => 135 | 50 => 140 | 5 => 5 | 9 => 9 | 66 => 154 | 70 => 158 | 76 => 164 | 77 => 165 | n => n, fun | n => n⟩
theorem Tryz.sortI : Go.Proofs.SlLaysF.n6 Tryz.prog Tryz.sortI_ren := {
  mixed := by kernel_rfl
  f6 := ⟨Tryz.f98.name, by decide, Tryz.func98.trans (congrArg some (by kernel_rfl))⟩
  f14 := ⟨Tryz.f116.name, by decide, Tryz.func116.trans (congrArg some (by kernel_rfl))⟩
  f15 := Tryz.func105.trans (congrArg some (by kernel_rfl))
  f20 := ⟨Tryz.f133.name, by decide, Tryz.func133.trans (congrArg some (by kernel_rfl))⟩
  f21 := ⟨Tryz.f134.name, by decide, Tryz.func134.trans (congrArg some (by kernel_rfl))⟩
  f22 := ⟨Tryz.f135.name, by decide, Tryz.func135.trans (congrArg some (by kernel_rfl))⟩
  f23 := ⟨Tryz.f136.name, by decide, Tryz.func136.trans (congrArg some (by kernel_rfl))⟩
  f24 := ⟨Tryz.f137.name, by decide, Tryz.func137.trans (congrArg some (by kernel_rfl))⟩
  f25 := ⟨Tryz.f138.name, by decide, Tryz.func138.trans (congrArg some (by kernel_rfl))⟩
  f26 := ⟨Tryz.f139.name, by decide, Tryz.func139.trans (congrArg some (by kernel_rfl))⟩
  f27 := ⟨Tryz.f140.name, by decide, Tryz.func140.trans (congrArg some (by kernel_rfl))⟩
  f28 := Tryz.func127.trans (congrArg some (by kernel_rfl))
  f29 := Tryz.func112.trans (congrArg some (by kernel_rfl))
  f46 := ⟨Tryz.f148.name, by decide, Tryz.func148.trans (congrArg some (by kernel_rfl))⟩
  f47 := Tryz.func142.trans (congrArg some (by kernel_rfl))
  f48 := Tryz.func143.trans (congrArg some (by kernel_rfl))
  f49 := ⟨Tryz.f149.name, by decide, Tryz.func149.trans (congrArg some (by kernel_rfl))⟩
  f50 := ⟨Tryz.f150.name, by decide, Tryz.func150.trans (congrArg some (by kernel_rfl))⟩
  f57 := ⟨Tryz.f152.name, by decide, Tryz.func152.trans (congrArg some (by kernel_rfl))⟩
  t0 := Tryz.underlying0
  a0 := Tryz.isAgg0
  z0 := Tryz.sizeOf0
  v0 := Tryz.zeroValue0
  t3 := Tryz.underlying3
  a3 := Tryz.isAgg3
  z3 := Tryz.sizeOf3
  v3 := Tryz.zeroValue3
  t4 := Tryz.underlying4
  a4 := Tryz.isAgg4
  z4 := Tryz.sizeOf4
  v4 := Tryz.zeroValue4
  t5 := Tryz.underlying5
  a5 := Tryz.isAgg5
  z5 := Tryz.sizeOf5
  v5 := Tryz.zeroValue5
  t9 := Tryz.underlying9
  a9 := Tryz.isAgg9
  z9 := Tryz.sizeOf9
  v9 := Tryz.zeroValue9
  t22 := Tryz.underlying112
  a22 := Tryz.isAgg112
  z22 := Tryz.sizeOf112
  v22 := Tryz.zeroValue112
  a24 := Tryz.isAgg3
  z24 := Tryz.sizeOf3
  t25 := Tryz.underlying126
  a25 := Tryz.isAgg126
  z25 := Tryz.sizeOf126
  v25 := Tryz.zeroValue126
  t39 := Tryz.underlying107
  a39 := Tryz.isAgg107
  z39 := Tryz.sizeOf107
  v39 := Tryz.zeroValue107
  t45 := Tryz.underlying135
  a45 := Tryz.isAgg135
  z45 := Tryz.sizeOf135
  v45 := Tryz.zeroValue135
  t46 := Tryz.underlying136
  a46 := Tryz.isAgg136
  z46 := Tryz.sizeOf136
  v46 := Tryz.zeroValue136
  t50 := Tryz.underlying140
  a50 := Tryz.isAgg140
  z50 := Tryz.sizeOf140
  v50 := Tryz.zeroValue140
  t53 := Tryz.underlying143
  a53 := Tryz.isAgg143
  z53 := Tryz.sizeOf143
  v53 := Tryz.zeroValue143
  t55 := Tryz.underlying80
  a55 := Tryz.isAgg80
  z55 := Tryz.sizeOf80
  v55 := Tryz.zeroValue80
  t66 := Tryz.underlying154
  a66 := Tryz.isAgg154
  z66 := Tryz.sizeOf154
  v66 := Tryz.zeroValue154
  t70 := Tryz.underlying158
  a70 := Tryz.isAgg158
  z70 := Tryz.sizeOf158
  v70 := Tryz.zeroValue158
  t76 := Tryz.underlying164
  a76 := Tryz.isAgg164
  z76 := Tryz.sizeOf164
  v76 := Tryz.zeroValue164
  t77 := Tryz.underlying165
  a77 := Tryz.isAgg165
  z77 := Tryz.sizeOf165
  v77 := Tryz.zeroValue165 }
def Tryz.sortP_ren : Go.Shelf.Ren := ⟨fun | 6 => 82 | 15 => 105 | 14 => 104 | 28 => 127 | 29 => 112 | 20 => 119 | 21 => 120 | 22 => 121 | 23 => 122 | 24 => 123 | 25 => 124 | 26 => 125 | 27 => 126 | 46 => 141 | 47 => 142 | 48 => 143 | 49 => 144 | 50 => 145 | 57 => 151 | n => n, fun | 22 => 94 | 24 => 99 | 25 => 116 | 3 => 3 | 39 => 107 | 0 => 0 | 53 => 143 | 55 => 80 | 4 => 4 | 46 => 136 | 45 => 135 | 50 => 140 | 5 => 5 | 9 => 9 | 66 => 154 | 70 => 158 | 76 => 164 | 77 => 165 | n => n, fun | n => n⟩
theorem Tryz.sortP : Go.Proofs.SlLaysF0.n6 Tryz.prog Tryz.sortP_ren := {
  mixed := by kernel_rfl
  f6 := ⟨Tryz.f82.name, by decide, Tryz.func82.trans (congrArg some (by kernel_rfl))⟩
  f14 := ⟨Tryz.f104.name, by decide, Tryz.func104.trans (congrArg some (by kernel_rfl))⟩
  f15 := Tryz.func105.trans (congrArg some (by kernel_rfl))
  f20 := ⟨Tryz.f119.name, by decide, Tryz.func119.trans (congrArg some (by kernel_rfl))⟩
  f21 := ⟨Tryz.f120.name, by decide, Tryz.func120.trans (congrArg some (by kernel_rfl))⟩
  f22 := ⟨Tryz.f121.name, by decide, Tryz.func121.trans (congrArg some (by kernel_rfl))⟩
  f23 := ⟨Tryz.f122.name, by decide, Tryz.func122.trans (congrArg some (by kernel_rfl))⟩
  f24 := ⟨Tryz.f123.name, by decide, Tryz.func123.trans (congrArg some (by kernel_rfl))⟩
  f25 := ⟨Tryz.f124.name, by decide, Tryz.func124.trans (congrArg some (by kernel_rfl))⟩
  f26 := ⟨Tryz.f125.name, by decide, Tryz.func125.trans (congrArg some (by kernel_rfl))⟩
  f27 := ⟨Tryz.f126.name, by decide, Tryz.func126.trans (congrArg some (by kernel_rfl))⟩
  f28 := Tryz.func127.trans (congrArg some (by kernel_rfl))
  f29 := Tryz.func112.trans (congrArg some (by kernel_rfl))
  f46 := ⟨Tryz.f141.name, by decide, Tryz.func141.trans (congrArg some (by kernel_rfl))⟩
  f47 := Tryz.func142.trans (congrArg some (by kernel_rfl))
  f48 := Tryz.func143.trans (congrArg some (by kernel_rfl))
  f49 := ⟨Tryz.f144.name, by decide, Tryz.func144.trans (congrArg some (by kernel_rfl))⟩
  f50 := ⟨Tryz.f145.name, by decide, Tryz.func145.trans (congrArg some (by kernel_rfl))⟩
  f57 := ⟨Tryz.f151.name, by decide, Tryz.func151.trans (congrArg some (by kernel_rfl))⟩
  t0 := Tryz.underlying0
  a0 := Tryz.isAgg0
  z0 := Tryz.sizeOf0
  v0 := Tryz.zeroValue0
  t3 := Tryz.underlying3
  a3 := Tryz.isAgg3
  z3 := Tryz.sizeOf3
  v3 := Tryz.zeroValue3
  t4 := Tryz.underlying4
  a4 := Tryz.isAgg4
  z4 := Tryz.sizeOf4
  v4 := Tryz.zeroValue4
  t5 := Tryz.underlying5
  a5 := Tryz.isAgg5
  z5 := Tryz.sizeOf5
  v5 := Tryz.zeroValue5
  t9 := Tryz.underlying9
  a9 := Tryz.isAgg9
  z9 := Tryz.sizeOf9
  v9 := Tryz.zeroValue9
  t22 := Tryz.underlying94
  a22 := Tryz.isAgg94
  z22 := Tryz.sizeOf94
  v22 := Tryz.zeroValue94
  t25 := Tryz.underlying116
  a25 := Tryz.isAgg116
  z25 := Tryz.sizeOf116
  v25 := Tryz.zeroValue116
  t39 := Tryz.underlying107
  a39 := Tryz.isAgg107
  z39 := Tryz.sizeOf107
  v39 := Tryz.zeroValue107
  t45 := Tryz.underlying135
  a45 := Tryz.isAgg135
  z45 := Tryz.sizeOf135
  v45 := Tryz.zeroValue135
  t46 := Tryz.underlying136
  a46 := Tryz.isAgg136
  z46 := Tryz.sizeOf136
  v46 := Tryz.zeroValue136
  t50 := Tryz.underlying140
  a50 := Tryz.isAgg140
  z50 := Tryz.sizeOf140
  v50 := Tryz.zeroValue140
  t53 := Tryz.underlying143
  a53 := Tryz.isAgg143
  z53 := Tryz.sizeOf143
  v53 := Tryz.zeroValue143
  t55 := Tryz.underlying80
  a55 := Tryz.isAgg80
  z55 := Tryz.sizeOf80
  v55 := Tryz.zeroValue80
  t66 := Tryz.underlying154
  a66 := Tryz.isAgg154
  z66 := Tryz.sizeOf154
  v66 := Tryz.zeroValue154
  t70 := Tryz.underlying158
  a70 := Tryz.isAgg158
  z70 := Tryz.sizeOf158
  v70 := Tryz.zeroValue158
  t76 := Tryz.underlying164
  a76 := Tryz.isAgg164
  z76 := Tryz.sizeOf164
  v76 := Tryz.zeroValue164
  t77 := Tryz.underlying165
  a77 := Tryz.isAgg165
  z77 := Tryz.sizeOf165
  v77 := Tryz.zeroValue165 }
end Go.Proofs.YtcoooehcgbohgaaGreat

namespace Go.Proofs.YtcoooehcgbohgaaGreat
open Go.Shelf Go.RowKit Go.Lib

section
variable {α : Type} [Inhabited α]
theorem heap_put (enc : α → Value) {w : World} {g n : Nat} {os : Array Obj} {cur : Array Value} {e : TypeId} {fr : Nat × Nat} (d : Array α) (hb : w.heap[g]? = some (.cells cur e fr)) :
    (Go.Sort.grow (Go.Sort.putRow enc (Go.Sort.ahead w n) g 0 d) os).heap[g]? = some (.cells (Go.Sort.putCells enc 0 d cur) e fr) := by
  have hg : g < w.heap.size := (Array.getElem?_eq_some_iff.1 hb).1
  rw [Go.Sort.heap_grow_old _ _ (by simpa using hg)]
  simp [Go.Sort.putRow, Go.Sort.mapBlock, Go.Sort.ahead, Array.getElem?_modify, hb, Go.Sort.onCells]
theorem grownBy_put (enc : α → Value) {w : World} {g off n : Nat} {os : Array Obj} (d : Array α) : w.grownBy (Go.Sort.grow (Go.Sort.putRow enc (Go.Sort.ahead w n) g off d) os) (some g) := by
  refine ⟨rfl, rfl, rfl, by simp, fun k hk hne => ?_⟩
  rw [Go.Sort.heap_grow_old _ _ (by simpa using hk)]
  have : g ≠ k := fun e => hne (by rw [e])
  simp [Go.Sort.putRow, Go.Sort.mapBlock, Go.Sort.ahead, Array.getElem?_modify, this]
theorem take_put (enc : α → Value) (cur : Array Value) (d : Array α) (h : d.size ≤ cur.size) : (Go.Sort.putCells enc 0 d cur).toList.take d.size = d.toList.map enc := by
  apply List.ext_getElem?
  intro j
  by_cases hj : j < d.size
  · rw [List.getElem?_take_of_lt hj, Array.getElem?_toList]
    simp [Go.Sort.putCells, hj, show j < cur.size by omega]
  · rw [List.getElem?_take_eq_none (by omega), List.getElem?_eq_none (by simp; omega)]
/-- Cells that a slice of the call's own has, held. -/
theorem holds_own (enc : α → Value) {w : World} {base g n cap size : Nat} {e : TypeId} {xs : List Value} (d : Array α) (h : w.ownsRow base e size (.slice (some ⟨g, 0, none⟩) n cap) n xs) (hx : xs = d.toList.map enc) : Go.Sort.Holds enc w g 0 d := by
  intro j hj
  have hl : n * size = d.size := by rw [← h.1, hx]; simp
  refine ⟨?_, ?_⟩
  · rw [Nat.zero_add, h.cellAt j (by omega), hx]
    simp [hj]
  · rw [Nat.zero_add]; exact h.frozenAt j
/-- .. and behind the cells' being laid anew. -/
theorem own_put (enc : α → Value) {w : World} {base g n cap size k : Nat} {e : TypeId} {os : Array Obj} {xs : List Value} (d : Array α) (h : w.ownsRow base e size (.slice (some ⟨g, 0, none⟩) n cap) n xs) (hd : d.size = n * size) :
    (Go.Sort.grow (Go.Sort.putRow enc (Go.Sort.ahead w k) g 0 d) os).ownsRow base e size (.slice (some ⟨g, 0, none⟩) n cap) n (d.toList.map enc) := by
  refine ⟨by simp [hd], ?_⟩
  rcases h.2 with ⟨h', _⟩ | ⟨g', cap', cur, h', hb, hg, hnc, hcm, hcs, htake⟩
  · simp at h'
  · simp only [Value.slice.injEq, Option.some.injEq, Addr.mk.injEq, and_true, true_and] at h'
    obtain ⟨rfl, rfl⟩ := h'
    have hle : d.size ≤ cur.size := by rw [hd, hcs]; exact Nat.mul_le_mul_right _ hnc
    exact .inr ⟨g, cap, _, rfl, hb, heap_put enc d hg, hnc, hcm, by simp [Go.Sort.putCells, hcs], by rw [← hd]; exact take_put enc cur d hle⟩
end

/-- Boxes that lie in memory, one behind the other. -/
structure Boxes (w : World) (a : Option Addr) (L : List Bx) : Prop where
  ok : ∀ x ∈ L, x.ok
  at' : L = [] ∨ ∃ b off, a = some ⟨b, off, none⟩ ∧ ∀ i, i < L.length →
    w.cell? ⟨b, off + i * 4, none⟩ = some (.int .i64 (bx L i).l) ∧ w.cell? ⟨b, off + i * 4 + 1, none⟩ = some (.int .i64 (bx L i).m) ∧
    w.cell? ⟨b, off + i * 4 + 2, none⟩ = some (.int .i64 (bx L i).h) ∧ w.cell? ⟨b, off + i * 4 + 3, none⟩ = some (.int .i64 (bx L i).k)
theorem Boxes.below {w w' : World} {a : Option Addr} {L : List Bx} (h : Boxes w a L) (g : Below w.heap.size w w') : Boxes w' a L := by
  refine ⟨h.ok, ?_⟩
  rcases h.at' with h | ⟨b, off, e, h⟩
  · exact .inl h
  · refine .inr ⟨b, off, e, fun i hi => ?_⟩
    obtain ⟨h0, h1, h2, h3⟩ := h i hi
    exact ⟨(g.cell (cell_block h0)).trans h0, (g.cell (cell_block h1)).trans h1, (g.cell (cell_block h2)).trans h2, (g.cell (cell_block h3)).trans h3⟩
theorem Boxes.block {w : World} {a : Option Addr} {L : List Bx} (h : Boxes w a L) (hn : 0 < L.length) : ∃ b off, a = some ⟨b, off, none⟩ ∧ b < w.heap.size ∧ ∀ i, i < L.length →
    w.cell? ⟨b, off + i * 4, none⟩ = some (.int .i64 (bx L i).l) ∧ w.cell? ⟨b, off + i * 4 + 1, none⟩ = some (.int .i64 (bx L i).m) ∧
    w.cell? ⟨b, off + i * 4 + 2, none⟩ = some (.int .i64 (bx L i).h) ∧ w.cell? ⟨b, off + i * 4 + 3, none⟩ = some (.int .i64 (bx L i).k) := by
  rcases h.at' with h | ⟨b, off, e, h⟩
  · rw [h] at hn; simp at hn
  · exact ⟨b, off, e, cell_block (h 0 hn).1, h⟩

/-- A place as the code has it. -/
def natV (i : Nat) : Value := .int .i64 (i : Int)

/-! The order of places -/
def cfS (L : List Bx) (i j : Fin L.length) : Int := orI (cmpI (bx L i.val).l (bx L j.val).l) (cmpI (i.val : Int) (j.val : Int))
theorem lt_cfS (L : List Bx) (i j : Fin L.length) : ltOf (cfS L) i j = true ↔ ltS L i.val j.val := by
  unfold ltOf cfS ltS
  rw [decide_eq_true_iff]
  rcases Int.lt_trichotomy (bx L i.val).l (bx L j.val).l with h | h | h
  · rw [cmpI_lt h]; simp only [orI]; omega
  · rw [cmpI_eq h, orI, if_pos rfl]
    rcases Int.lt_trichotomy (i.val : Int) (j.val : Int) with g | g | g
    · rw [cmpI_lt g]; omega
    · rw [cmpI_eq g]; omega
    · rw [cmpI_gt g]; omega
  · rw [cmpI_gt h]; simp only [orI]; omega
theorem lt_cfS_no (L : List Bx) (i j : Fin L.length) : ltOf (cfS L) i j = false ↔ ¬ ltS L i.val j.val := by
  rw [← lt_cfS]; simp
theorem swoS (L : List Bx) : Go.Sort.SWO (ltOf (cfS L)) where
  irrefl x := by rw [lt_cfS_no]; unfold ltS; omega
  trans x y z h1 h2 := by rw [lt_cfS] at *; unfold ltS at *; omega
  ntrans x y z h1 h2 := by rw [lt_cfS_no] at *; unfold ltS at *; omega
theorem totS (L : List Bx) (x y : Fin L.length) (h1 : ltOf (cfS L) x y = false) (h2 : ltOf (cfS L) y x = false) : x = y := by
  rw [lt_cfS_no] at *
  unfold ltS at *
  apply Fin.ext
  omega
theorem fin_vals (n : Nat) : (List.finRange n).map (fun i => i.val) = List.range n := by
  apply List.ext_getElem (by simp)
  intro i h1 h2
  simp
theorem is_sorted (L : List Bx) : IsSorted L (((List.finRange L.length).mergeSort fun x y => !ltOf (cfS L) y x).map (fun i => i.val)) := by
  have hp : (((List.finRange L.length).mergeSort fun x y => !ltOf (cfS L) y x).map (fun i => i.val)).Perm (List.range L.length) := by
    rw [← fin_vals]
    exact (List.mergeSort_perm _ _).map _
  refine ⟨hp, ?_⟩
  have hd := hp.nodup_iff.2 List.nodup_range
  have hs := List.pairwise_mergeSort (le := fun x y => !ltOf (cfS L) y x) (fun a b c h1 h2 => by
    simp only [Bool.not_eq_true'] at *
    exact (swoS L).ntrans _ _ _ h2 h1) (fun a b => by
    simp only [Bool.or_eq_true, Bool.not_eq_true']
    rw [lt_cfS_no, lt_cfS_no]
    unfold ltS
    omega) (List.finRange L.length)
  rw [List.pairwise_map]
  have hd2 := List.pairwise_map.1 (show List.Pairwise (· ≠ ·) _ from hd)
  refine (hs.and hd2).imp ?_
  rintro a b ⟨h1, h2⟩
  simp only [Bool.not_eq_true'] at h1
  rw [lt_cfS_no] at h1
  unfold ltS at *
  omega

/-! The order of pairs -/
def encP (p : Nat × Nat) : List Value := [.int .i64 (p.1 : Int), .int .i64 (p.2 : Int)]
def cfP (p q : Nat × Nat) : Int := orI (cmpI (p.1 : Int) (q.1 : Int)) (cmpI (p.2 : Int) (q.2 : Int))
theorem lt_cfP (p q : Nat × Nat) : ltOf cfP p q = true ↔ ltP p q := by
  unfold ltOf cfP ltP
  rw [decide_eq_true_iff]
  rcases Int.lt_trichotomy (p.1 : Int) (q.1 : Int) with h | h | h
  · rw [cmpI_lt h]; simp only [orI]; omega
  · rw [cmpI_eq h, orI, if_pos rfl]
    rcases Int.lt_trichotomy (p.2 : Int) (q.2 : Int) with g | g | g
    · rw [cmpI_lt g]; omega
    · rw [cmpI_eq g]; omega
    · rw [cmpI_gt g]; omega
  · rw [cmpI_gt h]; simp only [orI]; omega
theorem lt_cfP_no (p q : Nat × Nat) : ltOf cfP p q = false ↔ ¬ ltP p q := by
  rw [← lt_cfP]; simp
theorem swoP : Go.Sort.SWO (ltOf cfP) where
  irrefl x := by rw [lt_cfP_no]; unfold ltP; omega
  trans x y z h1 h2 := by rw [lt_cfP] at *; unfold ltP at *; omega
  ntrans x y z h1 h2 := by rw [lt_cfP_no] at *; unfold ltP at *; omega
theorem totP (x y : Nat × Nat) (h1 : ltOf cfP x y = false) (h2 : ltOf cfP y x = false) : x = y := by
  rw [lt_cfP_no] at *
  unfold ltP at *
  apply Prod.ext <;> omega
/-- Sorted, what holds just the pairs of a list that stands in order is that list. -/
theorem sort_prs {F P : List (Nat × Nat)} (h : F.Perm P) (hs : P.Pairwise ltP) : (F.mergeSort fun x y => !ltOf cfP y x) = P := by
  refine List.Perm.eq_of_pairwise (le := fun x y => (!ltOf cfP y x) = true) ?_ ?_ ?_ ((List.mergeSort_perm _ _).trans h)
  · intro a b _ _ h1 h2
    simp only [Bool.not_eq_true'] at h1 h2
    exact totP a b h2 h1
  · exact List.pairwise_mergeSort (fun a b c h1 h2 => by
      simp only [Bool.not_eq_true'] at *
      exact swoP.ntrans _ _ _ h2 h1) (fun a b => by
      simp only [Bool.or_eq_true, Bool.not_eq_true']
      rw [lt_cfP_no, lt_cfP_no]
      unfold ltP
      omega) F
  · refine hs.imp ?_
    intro a b hab
    simp only [Bool.not_eq_true']
    rw [lt_cfP_no]
    unfold ltP at *
    omega

theorem flat_pairs (F : List (Nat × Nat)) : (Go.Sort.flatK encP 2 F.toArray).toList = F.flatMap encP := by
  induction F with
  | nil => simp [Go.Sort.flatK]
  | cons p F ih =>
    rw [List.flatMap_cons, ← ih]
    apply List.ext_getElem
    · simp [encP]; omega
    · intro i h1 h2
      have hi : i < (F.length + 1) * 2 := by simpa using h1
      simp only [Go.Sort.flatK, List.size_toArray, List.length_cons, Array.toList_map, Array.toList_range, List.getElem_map, List.getElem_range]
      match i with
      | 0 => simp [encP]
      | 1 => simp [encP]
      | i + 2 =>
        rw [List.getElem_append_right (by simp [encP])]
        simp [encP, show (i + 2) / 2 = i / 2 + 1 by omega]

theorem sorti_any (L : List Bx) (a : Option Addr) (cap p g base : Nat) (w : World) (hL : Boxes w a L) (hn : 0 < L.length) (hn2 : L.length ≤ 1000000) (hp : w.cell? ⟨p, 0, none⟩ = some (.slice a L.length cap)) (hpg : p ≠ g)
    (hag : ∀ b off, a = some ⟨b, off, none⟩ → b ≠ g) (ho : w.ownsRow base 3 1 (.slice (some ⟨g, 0, none⟩) L.length L.length) L.length ((List.range L.length).map natV)) :
    Calls Tryz.prog 98 #[.slice (some ⟨g, 0, none⟩) L.length L.length, .func (.func 99) #[] #[.pointer (some ⟨p, 0, none⟩)]] w fun e w' => e = .returned (.tuple #[]) ∧
      (∃ S, IsSorted L S ∧ w'.ownsRow base 3 1 (.slice (some ⟨g, 0, none⟩) L.length L.length) L.length (S.map natV)) ∧ w.grownBy w' (some g) := by
  letI : Inhabited (Fin L.length) := ⟨⟨0, hn⟩⟩
  have eg : ∀ args w, (callFunc 99 args).run Tryz.prog w = .ok (.enter 99 args) w := enters_of Tryz.func99 (by kernel_rfl) rfl
  have hd : (List.finRange L.length).toArray.size = L.length := by simp
  have hH : Go.Sort.Holds (fun i : Fin L.length => Value.int .i64 (i.val : Int)) w g 0 (List.finRange L.length).toArray := by
    refine holds_own _ _ ho ?_
    rw [← fin_vals, List.map_map]
    rfl
  have hg : g < w.heap.size := (ho.lt g rfl).2
  obtain ⟨b, off, rfl, hb, hc⟩ := hL.block hn
  have hbg := hag b off rfl
  have hcmp : CmpLays1 Tryz.prog 99 #[.pointer (some ⟨p, 0, none⟩)] (fun i : Fin L.length => Value.int .i64 (i.val : Int)) (cfS L) g 0 (List.finRange L.length).toArray.size w := by
    intro m os dk hs x y
    have G : w.grownBy (sortWorld (fun i : Fin L.length => Value.int .i64 (i.val : Int)) w g 0 m dk os) (some g) := grownBy_put _ _
    refine (clo_any ⟨p, 0, none⟩ b off L.length cap x.val y.val (bx L x.val).l (bx L y.val).l _ (G.cell hp (by simpa using hpg)) x.isLt y.isLt (G.cell (hc _ x.isLt).1 (by simpa using hbg)) (G.cell (hc _ y.isLt).1 (by simpa using hbg))).mono ?_
    rintro e w' ⟨he, hE⟩
    exact ⟨he, hE.grow⟩
  have hcon := Any.slices_SortFunc_total Tryz.sortI (fun i : Fin L.length => Value.int .i64 (i.val : Int)) (fun _ => rfl) (cfS L) (swoS L) 99 #[.pointer (some ⟨p, 0, none⟩)] g 0 L.length (List.finRange L.length).toArray w eg hcmp hH hg (by rw [hd]; omega) (totS L)
  change Calls Tryz.prog 98 _ _ _ at hcon
  rw [hd] at hcon
  refine hcon.mono ?_
  rintro e w' ⟨he, n, os, rfl⟩
  refine ⟨he, ⟨_, is_sorted L, ?_⟩, grownBy_put _ _⟩
  have := own_put (fun i : Fin L.length => Value.int .i64 (i.val : Int)) (k := n) (os := os) ((List.finRange L.length).mergeSort fun x y => !ltOf (cfS L) y x).toArray ho (by simp [List.length_mergeSort])
  rw [List.map_map]
  exact this

theorem sortp_any (F P : List (Nat × Nat)) (v : Value) (base : Nat) (w : World) (hF : F.Perm P) (hP : P.Pairwise ltP) (hl : F.length ≤ 1000000) (ho : w.ownsRow base 99 2 v F.length (F.flatMap encP)) :
    Calls Tryz.prog 82 #[v, .func (.func 83) #[] #[]] w fun e w' => e = .returned (.tuple #[]) ∧
      w'.ownsRow base 99 2 v P.length (P.flatMap encP) ∧ w.grownBy w' v.ownBlock := by
  have hlen := hF.length_eq
  rcases ho.2 with ⟨rfl, h0⟩ | ⟨g, cap, cur, rfl, hb, hg, h1, h2, h3, h4⟩
  · have hcon := AnyF.slices_SortFunc_none (P := Tryz.prog) (ρ := Tryz.sortP_ren) { Tryz.sortP with } none 0 (.func (.func 83) #[] #[]) w
    change Calls Tryz.prog 82 _ _ _ at hcon
    refine hcon.mono ?_
    rintro e w' ⟨he, rfl⟩
    have hP0 : P = [] := List.eq_nil_of_length_eq_zero (by omega)
    subst hP0
    exact ⟨he, World.ownsRow_nil _ _ _ _, ⟨rfl, rfl, rfl, Nat.le_refl _, fun _ _ _ => rfl⟩⟩
  have eg : ∀ args w, (callFunc 83 args).run Tryz.prog w = .ok (.enter 83 args) w := enters_of Tryz.func83 (by kernel_rfl) rfl
  have hH : Go.Sort.HoldsK encP 2 w g 0 F.toArray := holds_own id _ ho (by rw [flat_pairs, List.map_id])
  have hgl : g < w.heap.size := (ho.lt g rfl).2
  have hcmp : CmpLays Tryz.prog 83 #[] encP 2 cfP g 0 F.toArray.size w := by
    intro m os dk hs x y
    refine (byp_any x.1 x.2 y.1 y.2 _).mono ?_
    rintro e w' ⟨he, hE⟩
    exact ⟨he, hE.grow⟩
  have hcon := AnyQ.slices_SortFunc_total Tryz.sortP 2 Tryz.isAgg99 Tryz.sizeOf99 encP (fun _ => rfl) (fun x v hv => by simp [encP] at hv; rcases hv with rfl | rfl <;> rfl) cfP swoP 83 #[] g 0 cap F.toArray w eg hcmp hH hgl (by simp; omega) totP
  change Calls Tryz.prog 82 _ _ _ at hcon
  rw [List.size_toArray] at hcon
  refine hcon.mono ?_
  rintro e w' ⟨he, n, os, rfl⟩
  refine ⟨he, ?_, grownBy_put _ _⟩
  rw [show F.toArray.toList = F from rfl, sort_prs hF hP]
  rw [← hlen]
  have := own_put id (k := n) (os := os) (Go.Sort.flatK encP 2 P.toArray) ho (by simp [hlen])
  rw [flat_pairs, List.map_id] at this
  exact this

end Go.Proofs.YtcoooehcgbohgaaGreat

namespace Go.Proofs.YtcoooehcgbohgaaGreat
open Go Go.RowKit

theorem box_info : (Tryz.prog.info? 57).map (fun i => (i.zero, i.size, i.bytes)) = some (some (.agg #[.int .i64 0, .int .i64 0, .int .i64 0, .int .i64 0]), 4, 32) := by kernel_rfl
def sets4 (xs : List Value) (o : Nat) (b : Bx) : List Value := (((xs.set o (.int .i64 b.l)).set (o + 1) (.int .i64 b.m)).set (o + 2) (.int .i64 b.h)).set (o + 3) (.int .i64 b.k)
theorem sets4_far (l m : List Value) (o k : Nat) (h : l.length = k) (b : Bx) : sets4 (l ++ m) (k + o) b = l ++ sets4 m o b := by
  unfold sets4
  simp only [show k + o + 1 = k + (o + 1) by omega, show k + o + 2 = k + (o + 2) by omega, show k + o + 3 = k + (o + 3) by omega]
  have e : ∀ (r : List Value) (j : Nat) (v : Value), (l ++ r).set (k + j) v = l ++ r.set j v := fun r j v => by
    rw [List.set_append_right _ _ (by omega), h, Nat.add_sub_cancel_left]
  simp only [e]
theorem flat_sets4 (c : Bx) : ∀ (L : List Bx) (i : Nat), i < L.length → sets4 (L.flatMap Bx.row) (i * 4) c = (L.set i c).flatMap Bx.row
  | b :: L, 0, _ => by simp [sets4, Bx.row]
  | b :: L, i + 1, h => by
    have hi : i < L.length := by simpa using h
    rw [List.flatMap_cons, show (i + 1) * 4 = 4 + i * 4 by omega, sets4_far _ _ _ 4 (by simp [Bx.row]), flat_sets4 c L i hi, List.set_cons_succ, List.flatMap_cons]
def z4 : Bx := ⟨0, 0, 0, 0⟩
theorem made4 (n : Nat) : (madeCells #[.int .i64 0, .int .i64 0, .int .i64 0, .int .i64 0] (n * 4)).toList = (List.replicate n z4).flatMap Bx.row := by
  apply List.ext_getElem?
  intro j
  by_cases hj : j < n * 4
  · have h1 := flat_at Bx.row 4 (fun _ => rfl) (List.replicate n z4) (j / 4) z4 (by rw [List.getElem?_replicate, if_pos (by omega)]) (j % 4) (by omega)
    rw [show j / 4 * 4 + j % 4 = j by omega] at h1
    rw [h1]
    have h2 : j % 4 = 0 ∨ j % 4 = 1 ∨ j % 4 = 2 ∨ j % 4 = 3 := by omega
    rcases h2 with h | h | h | h <;> simp [madeCells, hj, h, Bx.row, z4]
  · rw [List.getElem?_eq_none (by simp [madeCells]; omega), List.getElem?_eq_none (by rw [flat_len Bx.row 4 (fun _ => rfl)]; simp; omega)]
/-- The boxes of the first k, and zeros. -/
def boxN (L : List Bd) (k : Nat) : List Bx := (L.take k).map (fun B => (boxR B).1) ++ List.replicate (L.length - k) z4
theorem boxN_len {L : List Bd} {k : Nat} (h : k ≤ L.length) : (boxN L k).length = L.length := by unfold boxN; simp; omega
theorem boxN_none (L : List Bd) : boxN L 0 = List.replicate L.length z4 := by unfold boxN; simp
theorem boxN_all (L : List Bd) : boxN L L.length = L.map (fun B => (boxR B).1) := by unfold boxN; simp
theorem boxN_set {L : List Bd} {k : Nat} (h : k < L.length) : (boxN L k).set k (boxR (bd L k)).1 = boxN L (k + 1) := by
  unfold boxN
  have hl : ((L.take k).map (fun B => (boxR B).1)).length = k := by simp; omega
  rw [List.set_append_right _ _ (by omega), hl, Nat.sub_self]
  obtain ⟨m, hm⟩ : ∃ m, L.length - k = m + 1 := ⟨L.length - k - 1, by omega⟩
  have e : (L.take (k + 1)) = L.take k ++ [bd L k] := by
    rw [List.take_add_one, bd_get h]; rfl
  rw [hm, show L.length - (k + 1) = m by omega, List.replicate_succ, List.set_cons_zero, e, List.map_append, List.append_assoc]
  rfl
theorem boxN_get {L : List Bd} {k : Nat} (h : k < L.length) : (boxN L k)[k]? = some z4 := by
  unfold boxN
  have hl : ((L.take k).map (fun B => (boxR B).1)).length = k := by simp; omega
  rw [List.getElem?_append_right (by omega), hl, List.getElem?_replicate, if_pos (by omega)]
theorem boxE_ok : ∀ {L : List Bd}, (∀ i, i < L.length → (boxR (bd L i)).2 = 0) → boxE L = (L.map (fun B => (boxR B).1), 0)
  | [], _ => rfl
  | B :: L, h => by
    have h0 : (boxR B).2 = 0 := h 0 (by simp)
    have h1 : boxE L = _ := boxE_ok (L := L) (fun i hi => h (i + 1) (by simpa using hi))
    unfold boxE
    rw [if_pos h0, h1]; rfl
theorem boxE_no : ∀ {L : List Bd} {k : Nat}, k < L.length → (∀ i, i < k → (boxR (bd L i)).2 = 0) → ¬ (boxR (bd L k)).2 = 0 → boxE L = ([], (boxR (bd L k)).2)
  | B :: L, 0, _, _, g => by
    have g : ¬ (boxR B).2 = 0 := g
    unfold boxE
    rw [if_neg g]; rfl
  | B :: L, k + 1, hk, h, g => by
    have h0 : (boxR B).2 = 0 := h 0 (by simp)
    have h1 : boxE L = ([], (boxR (bd L k)).2) := boxE_no (by simpa using hk) (fun i hi => h (i + 1) (by omega)) g
    unfold boxE
    rw [if_pos h0, h1]
    have g : ¬ (boxR (bd L k)).2 = 0 := g
    rw [if_neg g]; rfl
theorem boxR_okX (B : Bd) : (boxR B).1.ok := by
  have z : (⟨0, 0, 0, 0⟩ : Bx).ok := ⟨inF0, inF0, inF0, inF0⟩
  unfold boxR pairX
  split
  · split
    · exact ⟨(two_in (subR_in _ _) (subR_in _ _)).1, (two_in (subR_in _ _) (subR_in _ _)).2, (two_in (addR_in _ _) (addR_in _ _)).1, (two_in (addR_in _ _) (addR_in _ _)).2⟩
    · exact z
  · exact z
theorem boxes_of {w : World} {base g n cap : Nat} {M : List Bx} (h : w.ownsRow base 57 4 (.slice (some ⟨g, 0, none⟩) n cap) n (M.flatMap Bx.row)) (hl : M.length = n) (hok : ∀ x ∈ M, x.ok) : Boxes w (some ⟨g, 0, none⟩) M := by
  refine ⟨hok, .inr ⟨g, 0, rfl, fun i hi => ?_⟩⟩
  have hx : M[i]? = some (bx M i) := by simp [bx, List.getD, hi]
  have e : ∀ c, c < 4 → w.cell? ⟨g, i * 4 + c, none⟩ = ((bx M i).row)[c]? := fun c hc => by
    rw [h.cellAt (i * 4 + c) (by omega), flat_at Bx.row 4 (fun _ => rfl) M i _ hx c hc]
  rw [Nat.zero_add]
  exact ⟨e 0 (by omega), e 1 (by omega), e 2 (by omega), e 3 (by omega)⟩

set_option maxRecDepth 10000 in
set_option maxHeartbeats 4000000 in
theorem boxes_any (L : List Bd) (a : Option Addr) (cap : Nat) (w : World) (hL : Bodies w a L) (hn : L.length ≤ 1000) :
    Calls Tryz.prog 60 #[.slice a L.length cap] w fun e w' => Below w.heap.size w w' ∧
      (((boxE L).2 = 0 ∧ (boxE L).1.length = L.length ∧ ∃ g, e = .returned (.slice (some ⟨g, 0, none⟩) L.length L.length) ∧ Boxes w' (some ⟨g, 0, none⟩) (boxE L).1) ∨ (¬ (boxE L).2 = 0 ∧ e = .panicked [fault (boxE L).2])) := by
  obtain ⟨i0, hi0, hz0, hz1, hz2⟩ := info_parts box_info
  go_enter Tryz.func60, Tryz.ntmps60
  go_wp2_with (first
    | (at_make; refine wpList_make_full _ rfl _ _ 96 rfl w.heap.size 57 i0 (.agg #[.int .i64 0, .int .i64 0, .int .i64 0, .int .i64 0]) 4 Tryz.underlying96 hi0 hz0 hz1 .i64 .i64 _ _ L.length rfl rfl rfl rfl (by rw [hz2]; omega) (by unfold maxLen; omega) (by simp) ?_; intro w1 ho1 hg1))
  have ho2 : w1.ownsRow w.heap.size 57 4 (.slice (some ⟨w.heap.size, 0, none⟩) L.length L.length) L.length ((boxN L 0).flatMap Bx.row) := by
    rw [boxN_none, ← made4]; exact ho1
  have hB1 : Below w.heap.size w w1 := (Below.refl _ w).grown hg1 (Nat.le_refl _) (fun k h => by cases h)
  clear ho1 hg1
  go_loopw [11] (fun i wr => ∃ k : Nat, k ≤ L.length ∧ i = .int .i64 k ∧ wr.ownsRow w.heap.size 57 4 (.slice (some ⟨w.heap.size, 0, none⟩) L.length L.length) L.length ((boxN L k).flatMap Bx.row) ∧ Hid (∀ j, j < k → (boxR (bd L j)).2 = 0) ∧ Below w.heap.size w wr) (fun i _ => L.length - (intOf i).toNat)
  case atStart => exact ⟨0, by omega, rfl, ho2, fun j hj => by omega, hB1⟩
  case round =>
    obtain ⟨k, hk, rfl, hO, HA, hB⟩ := hrel
    clear ho2 hB1
    by_cases hlt : k < L.length
    · have hi : (k : Int) < (L.length : Int) := by omega
      obtain ⟨b, off, rfl, hc⟩ := (hL.below hB).block hlt
      obtain ⟨c0, c1, c2, c3, c4, c5, c6, c7⟩ := hc
      have HN : Hid (¬ (boxR (bd L k)).2 = 0 → boxE L = ([], (boxR (bd L k)).2)) := fun g => boxE_no hlt HA.out g
      have HM : Hid ((boxR (bd L k)).2 = 0 → ∀ j, j < k + 1 → (boxR (bd L j)).2 = 0) := fun g j hj => by
        by_cases e : j = k
        · rw [e]; exact g
        · exact HA.out j (by omega)
      have HS : Hid ((boxN L k).set k (boxR (bd L k)).1 = boxN L (k + 1)) := boxN_set hlt
      have HG : Hid ((boxN L k)[k]? = some z4) := boxN_get hlt
      have HL : Hid ((boxN L k).length = L.length) := boxN_len hk
      have ho := hL.ok _ (bd_mem hlt)
      obtain ⟨B, eB⟩ : ∃ B, bd L k = B := ⟨_, rfl⟩
      rw [eB] at c0 c1 c2 c3 c4 c5 c6 c7 ho HN HM HS
      clear eB
      have C1 : Hid (∀ W, _) := fun W => waysX_of (t := boxR B) (of_box B ho W)
      clear ho
      generalize boxR B = t at *
      generalize boxN L k = M at *
      unfold Bd.val Bx.val at C1
      have hsz := hB.size
      have lt := (hO.lt w.heap.size rfl).2
      go_upto_region 5 with (fail)
      obtain ⟨V, hV⟩ : ∃ V, V = wr.alloc (.cells #[.int .i64 B.s, .int .i64 B.a, .int .i64 B.b, .int .i64 B.m, .int .i64 B.p, .int .i64 B.q, .int .i64 B.u, .int .i64 B.v] 28) := ⟨_, rfl⟩
      rw [← hV]
      have GV : Grew wr V := by rw [hV]; exact (Grew.refl wr).alloc _ _
      obtain ⟨q, hq⟩ : ∃ q, wr.heap.size = q := ⟨_, rfl⟩
      have d0 : V.cell? ⟨q, 0, none⟩ = some (.int .i64 B.s) := by rw [hV, ← hq]; simp [go_sem]
      have d1 : V.cell? ⟨q, 1, none⟩ = some (.int .i64 B.a) := by rw [hV, ← hq]; simp [go_sem]
      have d2 : V.cell? ⟨q, 2, none⟩ = some (.int .i64 B.b) := by rw [hV, ← hq]; simp [go_sem]
      have d3 : V.cell? ⟨q, 3, none⟩ = some (.int .i64 B.m) := by rw [hV, ← hq]; simp [go_sem]
      have d4 : V.cell? ⟨q, 4, none⟩ = some (.int .i64 B.p) := by rw [hV, ← hq]; simp [go_sem]
      have d5 : V.cell? ⟨q, 5, none⟩ = some (.int .i64 B.q) := by rw [hV, ← hq]; simp [go_sem]
      have d6 : V.cell? ⟨q, 6, none⟩ = some (.int .i64 B.u) := by rw [hV, ← hq]; simp [go_sem]
      have d7 : V.cell? ⟨q, 7, none⟩ = some (.int .i64 B.v) := by rw [hV, ← hq]; simp [go_sem]
      rw [hq]
      clear hV hq c0 c1 c2 c3 c4 c5 c6 c7
      have hBV : Hid (Below w.heap.size w V) := hB.trans (GV.below.mono hsz)
      have hOV := row_grew hO GV
      clear hO hB GV
      go_wp2_with (first
        | (go_at_call 84; go_fit (C1.out _); rintro e V1 ⟨(⟨rfl, h1⟩ | ⟨rfl, h1⟩), U1⟩; (have hO1 := row_grew hOV U1); (have z0 := hO1.frozenAt (k * 4)); (have z1 := hO1.frozenAt (k * 4 + 1)); (have z2 := hO1.frozenAt (k * 4 + 2)); (have z3 := hO1.frozenAt (k * 4 + 3)); (have e0 : V1.cell? ⟨w.heap.size, k * 4, none⟩ = some (.int .i64 0) := (hO1.cellAt (k * 4) (by omega)).trans (flat_at Bx.row 4 (fun _ => rfl) M k z4 HG.out 0 (by omega))); (have e1 : V1.cell? ⟨w.heap.size, k * 4 + 1, none⟩ = some (.int .i64 0) := (hO1.cellAt (k * 4 + 1) (by omega)).trans (flat_at Bx.row 4 (fun _ => rfl) M k z4 HG.out 1 (by omega))); (have e2 : V1.cell? ⟨w.heap.size, k * 4 + 2, none⟩ = some (.int .i64 0) := (hO1.cellAt (k * 4 + 2) (by omega)).trans (flat_at Bx.row 4 (fun _ => rfl) M k z4 HG.out 2 (by omega))); (have e3 : V1.cell? ⟨w.heap.size, k * 4 + 3, none⟩ = some (.int .i64 0) := (hO1.cellAt (k * 4 + 3) (by omega)).trans (flat_at Bx.row 4 (fun _ => rfl) M k z4 HG.out 3 (by omega)))))
      rotate_left
      · exact ⟨rfl, hBV.out.trans (U1.below.mono (by have := hBV.out.size; omega)), .inr ⟨by rw [HN.out h1.out]; exact h1.out, by rw [HN.out h1.out]⟩⟩
      have hB1 : Below w.heap.size w V1 := hBV.out.trans (U1.below.mono (by have := hBV.out.size; omega))
      refine ⟨⟨k + 1, by omega, rfl, ?_, HM.out h1.out, ?_⟩, ?_⟩
      · rw [← HS.out, ← flat_sets4 t.1 M k (by rw [HL.out]; exact hlt)]
        exact ((((hO1.stored _ _).1.stored _ _).1.stored _ _).1.stored _ _).1
      · exact ((((hB1.setCell (p := ⟨w.heap.size, _, none⟩) (Nat.le_refl _) _).setCell (p := ⟨w.heap.size, _, none⟩) (Nat.le_refl _) _).setCell (p := ⟨w.heap.size, _, none⟩) (Nat.le_refl _) _).setCell (p := ⟨w.heap.size, _, none⟩) (Nat.le_refl _) _)
      · simp [intOf]; omega
    · have hi : ¬ (k : Int) < (L.length : Int) := by omega
      obtain rfl : k = L.length := by omega
      have hE : Hid (boxE L = (boxN L L.length, 0)) := by show _ = _; rw [boxE_ok HA.out, boxN_all]
      have HL : Hid ((boxN L L.length).length = L.length) := boxN_len hk
      have HK : Hid (∀ x ∈ boxN L L.length, x.ok) := by
        rw [boxN_all]
        intro x hx
        obtain ⟨B, _, rfl⟩ := List.mem_map.1 hx
        exact boxR_okX B
      clear HA
      go_wp2_with (fail)
      go_ret
      refine ⟨hB, .inl ⟨by rw [hE.out], by rw [hE.out]; exact HL.out, w.heap.size, rfl, ?_⟩⟩
      rw [hE.out]
      exact boxes_of hO HL.out HK.out
end Go.Proofs.YtcoooehcgbohgaaGreat

namespace Go.Proofs.YtcoooehcgbohgaaGreat
open Go.RowKit

theorem info_int : (Tryz.prog.info? 3).map (fun i => (i.zero, i.size, i.bytes)) = some (some (.int .i64 0), 1, 8) := by kernel_rfl
theorem mkf (fn : Fn) (first cap : Array Value) (w : World) : (Instr.makeFunc fn first cap).run Tryz.prog w = .ok (.func fn first cap) w := rfl

/-- The places so far, and zeros. -/
def upto (n k : Nat) : List Value := (List.range k).map natV ++ List.replicate (n - k) (.int .i64 0)
theorem upto_all (n : Nat) : upto n n = (List.range n).map natV := by unfold upto; simp
theorem upto_none (n : Nat) : upto n 0 = List.replicate n (.int .i64 0) := by unfold upto; simp
theorem upto_set {n k : Nat} (h : k < n) : (upto n k).set k (natV k) = upto n (k + 1) := by
  unfold upto
  rw [List.set_append_right _ _ (by simp), List.range_succ, List.map_append, List.length_map, List.length_range, Nat.sub_self]
  obtain ⟨m, hm⟩ : ∃ m, n - k = m + 1 := ⟨n - k - 1, by omega⟩
  rw [hm, show n - (k + 1) = m by omega, List.replicate_succ]
  simp
theorem upto_get {n k : Nat} (h : k < n) : (upto n k)[k]? = some (.int .i64 0) := by
  unfold upto
  rw [List.getElem?_append_right (by simp), List.getElem?_replicate, if_pos (by simp; omega)]

set_option maxHeartbeats 2000000 in
theorem sorted_any (L : List Bx) (a : Option Addr) (cap : Nat) (w : World) (hL : Boxes w a L) (hn : L.length ≤ 1000) :
    Calls Tryz.prog 80 #[.slice a L.length cap] w fun e w' => (∃ g S, e = .returned (.slice (some ⟨g, 0, none⟩) L.length L.length) ∧ IsSorted L S ∧
      w'.ownsRow w.heap.size 3 1 (.slice (some ⟨g, 0, none⟩) L.length L.length) L.length (S.map natV)) ∧ Below w.heap.size w w' := by
  have hmf := mkf
  obtain ⟨i0, hi0, hz0, hz1, hz2⟩ := info_parts info_int
  go_enter Tryz.func80, Tryz.ntmps80
  go_wp2_with (first
    | (at_make; refine wpList_make_full _ rfl _ _ 112 rfl w.heap.size 3 i0 (.int .i64 0) 1 Tryz.underlying112 hi0 hz0 hz1 .i64 .i64 _ _ L.length rfl rfl rfl rfl (by rw [hz2]; omega) (by unfold maxLen; omega) (by simp) ?_; intro w1 ho1 hg1))
  have e1 : (w.alloc (Obj.cells #[Value.slice a L.length cap] 96)).heap.size = w.heap.size + 1 := by simp
  rw [e1] at ho1
  have ho2 : w1.ownsRow w.heap.size 3 1 (.slice (some ⟨w.heap.size + 1, 0, none⟩) L.length L.length) L.length (upto L.length 0) := by
    have e2 := toList_madeCells_one (.int .i64 0) L.length
    rw [upto_none, ← e2]
    rw [Nat.mul_one] at ho1
    exact ho1
  have hB1 : Below w.heap.size w w1 := ((Below.refl _ w).alloc (Nat.le_refl _) _).grown hg1 (by simp) (fun k h => by cases h)
  have hp1 : w1.cell? ⟨w.heap.size, 0, none⟩ = some (.slice a L.length cap) := hg1.cell (by simp [go_sem]) (by simp)
  clear ho1 hg1 e1
  go_loopw [10] (fun i wr => ∃ k : Nat, k ≤ L.length ∧ i = .int .i64 k ∧ wr.ownsRow w.heap.size 3 1 (.slice (some ⟨w.heap.size + 1, 0, none⟩) L.length L.length) L.length (upto L.length k) ∧ wr.cell? ⟨w.heap.size, 0, none⟩ = some (.slice a L.length cap) ∧ Below w.heap.size w wr) (fun i _ => L.length - (intOf i).toNat)
  case atStart => exact ⟨0, by omega, rfl, ho2, hp1, hB1⟩
  case round =>
    obtain ⟨k, hk, rfl, ho, hp, hB⟩ := hrel
    by_cases hlt : k < L.length
    · have hi : (k : Int) < (L.length : Int) := by omega
      have hc := (ho.cellAt k (by omega)).trans (upto_get hlt)
      have hf := ho.frozenAt k
      have h2 : (wr.setCell ⟨w.heap.size + 1, k, none⟩ (natV k)).cell? ⟨w.heap.size, 0, none⟩ = some (.slice a L.length cap) := by rw [World.cell?_setCell_other _ _ _ _ (by simp)]; exact hp
      have h1 := (ho.stored k (natV k)).1
      rw [upto_set hlt] at h1
      have R := And.intro h1 (And.intro h2 (hB.setCell (p := ⟨w.heap.size + 1, k, none⟩) (by simp) (natV k)))
      have R : Hid _ := R
      clear h1 h2
      clear ho hp hB ho2 hp1 hB1
      go_wp2
      refine ⟨⟨k + 1, by omega, rfl, R.out.1, R.out.2.1, R.out.2.2⟩, ?_⟩
      simp [intOf]; omega
    · have hi : ¬ (k : Int) < (L.length : Int) := by omega
      obtain rfl : k = L.length := by omega
      rw [upto_all] at ho
      have hLr := hL.below hB
      clear ho2 hp1 hB1
      by_cases h0 : L.length = 0
      · obtain rfl := List.eq_nil_of_length_eq_zero h0
        have hN := fun W => AnyF.slices_SortFunc_none (P := Tryz.prog) (ρ := Tryz.sortI_ren) { Tryz.sortI with } (some ⟨w.heap.size + 1, 0, none⟩) 0 (.func (.func 99) #[] #[.pointer (some ⟨w.heap.size, 0, none⟩)]) W
        change ∀ W, Calls Tryz.prog 98 _ _ _ at hN
        simp only [List.length_nil] at *
        clear hn hk hlt hi
        go_wp2_with (first
          | (go_at_call 98; go_fit (hN _); rintro e V ⟨rfl, rfl⟩))
        go_ret
        exact ⟨⟨_, [], rfl, ⟨List.Perm.refl _, List.Pairwise.nil⟩, ho⟩, hB⟩
      · go_wp2_with (first
          | (go_at_call 98; go_fit (sorti_any L a cap w.heap.size (w.heap.size + 1) w.heap.size _ hLr (by omega) (by omega) hp (by omega) (fun b off e => by obtain ⟨b', off', e', hb', _⟩ := hL.block (by omega); rw [e'] at e; cases e; omega) ho); rintro e V ⟨rfl, ⟨S, hS, hO⟩, hG⟩))
        go_ret
        exact ⟨⟨_, S, rfl, hS, hO⟩, hB.grown hG hB.size (fun k h => by cases h; omega)⟩
end Go.Proofs.YtcoooehcgbohgaaGreat
