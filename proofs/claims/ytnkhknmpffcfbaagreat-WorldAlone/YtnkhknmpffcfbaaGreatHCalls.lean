/-
  What package touch's calls do: what the plain functions say, or a panic of a Fault; more blocks are in memory, and nothing else.
-/
import Derived.Test.YtnkhknmpffcfbaaGreatHNum
import Derived.Test.YtnkhknmpffcfbaaGreatXOf
namespace Go.Proofs.YtnkhknmpffcfbaaGreat
open Go.RowKit

theorem inF0 : inF 0 := ⟨by decide, by decide⟩
theorem two_in {r s : Int × Int} (h : inF r.1) (g : inF s.1) : inF (two r s).1 ∧ inF (two r s).2.1 := by
  unfold two
  split
  · split
    · exact ⟨h, g⟩
    · exact ⟨inF0, inF0⟩
  · exact ⟨inF0, inF0⟩
theorem addR_in (a b : Int) : inF (addR a b).1 := (inR_in _).1
theorem subR_in (a b : Int) : inF (subR a b).1 := (inR_in _).1
theorem amtR_in {d : Int} (h : inF d) : inF (amtR d).1 := by
  unfold amtR
  split
  · exact subR_in _ _
  · exact h
theorem behind_in {r : Int × Int} {f : Int → Int × Int} (h : inF (f r.1).1) : inF (behind r f).1 := by
  unfold behind
  split
  · exact h
  · exact inF0
theorem over_no1 {a b d : Int} (h : ¬ (addR a b).2 = 0) : outR (overR a b d) = .panicked [fault (addR a b).2] := by unfold overR behind; rw [if_neg h]; exact if_neg h
theorem over_ok1 {a b d : Int} (h : (addR a b).2 = 0) : overR a b d = behind (amtR d) fun m => subR (addR a b).1 m := by unfold overR behind; rw [if_pos h]
theorem over_no2 {a b d : Int} (h : (addR a b).2 = 0) (g : ¬ (amtR d).2 = 0) : outR (overR a b d) = .panicked [fault (amtR d).2] := by rw [over_ok1 h]; unfold behind; rw [if_neg g]; exact if_neg g
theorem over_ok2 {a b d : Int} (h : (addR a b).2 = 0) (g : (amtR d).2 = 0) : subR (addR a b).1 (amtR d).1 = overR a b d := by rw [over_ok1 h]; unfold behind; rw [if_pos g]
theorem over_in {a b d : Int} : inF (overR a b d).1 := behind_in (behind_in (subR_in _ _))

set_option maxHeartbeats 1000000 in
theorem overlap_any (a b d : Int) (w : World) (ha : inF a) (hb : inF b) (hd : inF d) :
    Calls Tryz.prog 115 #[.int .i64 a, .int .i64 b, .int .i64 d] w fun e w' => e = outR (overR a b d) ∧ w' = w := by
  have i1 := addR_in a b
  have i2 := amtR_in hd
  have c1 := fun W => ways_of (cadd_any a b W ha hb)
  have c2 : d < 0 → _ := fun _ W => ways_of (csub_any 0 d W inF0 hd)
  have c3 := fun W => csub_any (addR a b).1 (amtR d).1 W i1 i2
  have n1 := @over_no1 a b d
  have n2 := @over_no2 a b d
  have n3 := @over_ok2 a b d
  have e0 : d < 0 → subR 0 d = amtR d := fun g => by unfold amtR; rw [if_pos g]
  have e1 : ¬ d < 0 → amtR d = (d, 0) := fun g => by unfold amtR; rw [if_neg g]
  generalize subR (addR a b).1 (amtR d).1 = u at *
  generalize overR a b d = t at *
  generalize addR a b = r at *
  by_cases hn : d < 0
  · rw [e0 hn] at c2
    generalize amtR d = s at *
    have C1 : Hid _ := c1
    have C2 : Hid _ := c2 hn
    have C3 : Hid _ := fun W => ways_of (c3 W)
    have N1 : Hid _ := n1
    have N2 : Hid _ := n2
    have N3 : Hid _ := n3
    clear c1 c2 c3 n1 n2 n3 e0 e1 i1 i2
    go_enter Tryz.func115, Tryz.ntmps115
    go_wp2_with (first
      | (go_at_call 44; go_fit (C1.out _); rintro e w' ⟨(⟨rfl, h1⟩ | ⟨rfl, h1⟩), rfl⟩)
      | (go_at_call 85; go_fit (C2.out _); rintro e w' ⟨(⟨rfl, h2⟩ | ⟨rfl, h2⟩), rfl⟩)
      | (go_at_call 85; go_fit (C3.out _); rintro e w' ⟨(⟨rfl, h3⟩ | ⟨rfl, h3⟩), rfl⟩))
    all_goals try (first | (exact ⟨rfl, (N1.out h1.out).symm, rfl⟩) | (exact ⟨rfl, (N2.out h1.out h2.out).symm, rfl⟩) | (exact ⟨rfl, by rw [← N3.out h1.out h2.out]; exact (if_neg h3.out).symm, rfl⟩))
    go_ret
    exact ⟨by rw [← N3.out h1.out h2.out]; exact (if_pos h3.out).symm, rfl⟩
  · rw [e1 hn] at c3 n2 n3
    simp only at c3 n3
    have C1 : Hid _ := c1
    have C3 : Hid _ := fun W => ways_of (c3 W)
    have N1 : Hid _ := n1
    have N3 : Hid (r.2 = 0 → u = t) := fun h => n3 h trivial
    clear c1 c2 c3 n1 n2 n3 e0 e1 i1 i2
    go_enter Tryz.func115, Tryz.ntmps115
    go_wp2_with (first
      | (go_at_call 44; go_fit (C1.out _); rintro e w' ⟨(⟨rfl, h1⟩ | ⟨rfl, h1⟩), rfl⟩)
      | (go_at_call 85; go_fit (C3.out _); rintro e w' ⟨(⟨rfl, h3⟩ | ⟨rfl, h3⟩), rfl⟩))
    all_goals try (first | (exact ⟨rfl, (N1.out h1.out).symm, rfl⟩) | (exact ⟨rfl, by rw [← N3.out h1.out]; exact (if_neg h3.out).symm, rfl⟩))
    go_ret
    exact ⟨by rw [← N3.out h1.out]; exact (if_pos h3.out).symm, rfl⟩

theorem tow_any (d : Int) (w : World) :
    Calls Tryz.prog 116 #[.int .i64 d] w fun e w' => e = .returned (.int .i64 (towI d)) ∧ w' = w := by
  unfold towI
  by_cases h : d < 0
  · rw [if_pos h]
    go_enter Tryz.func116, Tryz.ntmps116
    go_wp2
    go_ret
    exact ⟨rfl, rfl⟩
  · rw [if_neg h]
    go_enter Tryz.func116, Tryz.ntmps116
    go_wp2
    go_ret
    exact ⟨rfl, rfl⟩

/-- A contact's two answers. -/
def retH (r : Ht × Bool) : Ending := .returned (.tuple #[.agg #[.int .i64 r.1.x, .int .i64 r.1.y, .int .i64 r.1.d], .bool r.2])
theorem tcontact_any (x y d : Int) (w : World) :
    Calls Tryz.prog 114 #[.agg #[.int .i64 x, .int .i64 y], .int .i64 d] w fun e w' => e = retH (contactH x y d) ∧ Grew w w' := by
  have G : Hid (∀ c, Grew w ((w.alloc (.cells #[.int .i64 x, .int .i64 y] 24)).alloc (.cells c 47))) := fun c => ((Grew.refl w).alloc _ _).alloc _ _
  unfold contactH
  by_cases h : d ≤ 0
  · rw [if_pos h]
    go_enter Tryz.func114, Tryz.ntmps114
    go_wp2
    simp [bodyPost, results, Tryz.results114, go_sem, retH]
    exact G.out _
  · rw [if_neg h]
    go_enter Tryz.func114, Tryz.ntmps114
    go_wp2
    simp [bodyPost, results, Tryz.results114, go_sem, retH]
    exact G.out _
end Go.Proofs.YtnkhknmpffcfbaaGreat
