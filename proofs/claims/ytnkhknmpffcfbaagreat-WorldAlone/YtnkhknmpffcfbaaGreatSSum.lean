/-
  What world.Momentum does: the sum of what moves, or its error; nothing that was there is written.
-/
import Derived.Test.YtnkhknmpffcfbaaGreatSTry
import Derived.Test.YtnkhknmpffcfbaaGreatSRun
namespace Go.Proofs.YtnkhknmpffcfbaaGreat
open Go Go.RowKit

theorem sumE_drop {L : List Bd} {k : Nat} (h : k < L.length) (x y : Int) : sumE (L.drop k) x y = if (two (addR x (bd L k).u) (addR y (bd L k).v)).2.2 = 0 then sumE (L.drop (k + 1)) (two (addR x (bd L k).u) (addR y (bd L k).v)).1 (two (addR x (bd L k).u) (addR y (bd L k).v)).2.1 else (0, 0, (two (addR x (bd L k).u) (addR y (bd L k).v)).2.2) := by
  have e : L.drop k = bd L k :: L.drop (k + 1) := by
    rw [List.drop_eq_getElem_cons h]
    simp [bd, List.getD, h]
  rw [e]; rfl

set_option maxRecDepth 10000 in
set_option maxHeartbeats 4000000 in
theorem sumc_any (L : List Bd) (a : Option Addr) (c t q : Nat) (x y : Int) (b : Option Addr) (m d : Nat) (w : World) (hq : W4 w q x y a L.length c b m d) (hL : Bodies w a L) (hn : L.length ≤ 500) (hLt : ∀ z off, a = some ⟨z, off, none⟩ → L ≠ [] → z ≠ t) (ht : At w t 0 0) (hz : Free w t) :
    Calls Tryz.prog 24 #[.pointer (some ⟨q, 0, none⟩), .pointer (some ⟨t, 0, none⟩)] w fun e w' => But (fun n => n = t) w w' ∧ ∃ k, (e = .returned (.tuple #[]) ∧ k = 0 ∨ e = .panicked [fault k]) ∧ k = (sumE L 0 0).2.2 ∧ (k = 0 → At w' t (sumE L 0 0).1 (sumE L 0 0).2.1) := by
  obtain ⟨c0, c1, c2, c3⟩ := hq
  go_enter Tryz.func24, Tryz.ntmps24
  go_wp2_with (fail)
  go_loopw [7] (fun i wr => ∃ (k : Nat) (p r : Int), k ≤ L.length ∧ i = .int .i64 k ∧ inF p ∧ inF r ∧ At wr t p r ∧ Hid (Free wr t) ∧ Hid (sumE L 0 0 = sumE (L.drop k) p r) ∧ But (fun n => n = t) w wr) (fun i _ => L.length - (intOf i).toNat)
  case atStart => exact ⟨0, 0, 0, by omega, rfl, inF0, inF0, ht, hz, rfl, But.refl _ _⟩
  case round =>
    obtain ⟨k, p, r, hk, rfl, hp, hr, ha, HZ, HU, hW⟩ := hrel
    clear ht hz
    by_cases hlt : k < L.length
    · have hi : (k : Int) < (L.length : Int) := by omega
      have hne : L ≠ [] := fun e => by rw [e] at hlt; simp at hlt
      have hLw := hL.far hW (fun z off e h => hLt z off e h)
      obtain ⟨jb, off, rfl, hc⟩ := hLw.block hlt
      have ho := hL.ok _ (bd_mem hlt)
      have HS := sumE_drop hlt p r
      obtain ⟨B, eB⟩ : ∃ B, bd L k = B := ⟨_, rfl⟩
      rw [eB] at hc ho HS
      have C1 : Hid (∀ W, _) := fun W => waysV_of (t := two (addR p B.u) (addR r B.v)) (vadd_any p r B.u B.v W hp hr ho.u ho.v)
      have hin : inF (two (addR p B.u) (addR r B.v)).1 ∧ inF (two (addR p B.u) (addR r B.v)).2.1 := two_in (addR_in _ _) (addR_in _ _)
      generalize two (addR p B.u) (addR r B.v) = T at *
      have HS : Hid (sumE L 0 0 = if T.2.2 = 0 then sumE (L.drop (k + 1)) T.1 T.2.1 else (0, 0, T.2.2)) := HU.out.trans HS
      have HI : Hid (inF T.1 ∧ inF T.2.1) := hin
      unfold vec at C1
      have hbt := hc.size
      have hta := ha.size
      obtain ⟨b0, b1, b2, b3, b4, b5, b6, b7⟩ := hc
      obtain ⟨a0, a1⟩ := ha
      have HL : Hid (Bodies w (some ⟨jb, off, none⟩) L) := hL
      clear hLw HU hin ho hp hr eB hL hLt
      go_upto_region 3 with (fail)
      obtain ⟨V, hV⟩ : ∃ X, X = wr.alloc (.cells #[.int .i64 B.s, .int .i64 B.a, .int .i64 B.b, .int .i64 B.m, .int .i64 B.p, .int .i64 B.q, .int .i64 B.u, .int .i64 B.v] 39) := ⟨_, rfl⟩
      rw [← hV]
      have GV : Grew wr V := by rw [hV]; exact (Grew.refl wr).alloc _ _
      obtain ⟨s, hs⟩ : ∃ s, wr.heap.size = s := ⟨_, rfl⟩
      have d6 : V.cell? ⟨s, 6, none⟩ = some (.int .i64 B.u) := by rw [hV, ← hs]; simp [go_sem]
      have d7 : V.cell? ⟨s, 7, none⟩ = some (.int .i64 B.v) := by rw [hV, ← hs]; simp [go_sem]
      have e0 := GV.cell a0
      have e1 := GV.cell a1
      rw [hs]
      clear hV hs b0 b1 b2 b3 b4 b5 b6 b7
      go_wp2_with (first
        | (go_at_call 25; go_fit (C1.out _); rintro e V1 ⟨(⟨rfl, h1⟩ | ⟨rfl, h1⟩), U1⟩; (have f0 := U1.cell e0); (have f1 := U1.cell e1); (have z0 := U1.frozen (GV.frozen (HZ.out 0 none))); (have z1 := U1.frozen (GV.frozen (HZ.out 1 none)))))
      · refine ⟨⟨k + 1, T.1, T.2.1, by omega, rfl, HI.out.1, HI.out.2, at_set _ _ _ _ _ _ ⟨f0, f1⟩, fun o sp => by rw [World.frozen?_setCell, World.frozen?_setCell]; exact U1.frozen (GV.frozen (HZ.out o sp)), ?_, ((hW.trans (GV.trans U1).but).set rfl _ _ _).set rfl _ _ _⟩, ?_⟩
        · show _ = _
          rw [HS.out, if_pos h1.out]
        · simp [intOf]; omega
      · exact ⟨rfl, hW.trans (GV.trans U1).but, _, .inr rfl, by rw [HS.out, if_neg h1.out], fun e => absurd e h1.out⟩
    · have hi : ¬ (k : Int) < (L.length : Int) := by omega
      obtain rfl : k = L.length := by omega
      have hE : Hid (sumE L 0 0 = (p, r, 0)) := by show _ = _; rw [HU.out, List.drop_eq_nil_of_le (Nat.le_refl _)]; rfl
      clear HU
      go_wp2_with (fail)
      go_end0
      exact ⟨hW, 0, .inl ⟨rfl, rfl⟩, by rw [hE.out], fun _ => by rw [hE.out]; exact ha⟩

theorem sumE_bad : ∀ (L : List Bd) (x y : Int), ¬ (sumE L x y).2.2 = 0 → (sumE L x y).1 = 0 ∧ (sumE L x y).2.1 = 0
  | [], _, _, h => absurd rfl h
  | B :: L, x, y, h => by
    unfold sumE at *
    split
    · rename_i g; rw [if_pos g] at h; exact sumE_bad L _ _ h
    · exact ⟨rfl, rfl⟩

set_option maxRecDepth 10000 in
set_option maxHeartbeats 4000000 in
theorem momentum_any (x y : Int) (L : List Bd) (a : Option Addr) (c : Nat) (b : Option Addr) (m d : Nat) (w : World) (hL : Bodies w a L) (hn : L.length ≤ 500) :
    Calls Tryz.prog 14 #[worldV x y a L.length c b m d] w fun e w' => e = .returned (.tuple #[vec (sumE L 0 0).1 (sumE L 0 0).2.1, .int .i64 (sumE L 0 0).2.2]) ∧ Below w.heap.size w w' := by
  suffices H : ∀ R : Ending → World → Prop, (∀ w', Below w.heap.size w w' → R (.returned (.tuple #[vec (sumE L 0 0).1 (sumE L 0 0).2.1, .int .i64 (sumE L 0 0).2.2])) w') → Calls Tryz.prog 14 #[worldV x y a L.length c b m d] w R from H _ (fun _ h => ⟨rfl, h⟩)
  intro R hR
  have HRR : Hid (∀ w', Below w.heap.size w w' → R (.returned (.tuple #[vec (sumE L 0 0).1 (sumE L 0 0).2.1, .int .i64 (sumE L 0 0).2.2])) w') := hR
  have hmf := mk_func
  have hin := hL.in'
  obtain ⟨V, hV⟩ : ∃ V, V = ((w.alloc (.cells #[.int .i64 x, .int .i64 y, .slice a L.length c, .slice b m d] 29)).alloc (.cells #[.int .i64 0, .int .i64 0] 24)).alloc (.cells #[.int .i64 0, .int .i64 0] 24) := ⟨_, rfl⟩
  obtain ⟨s, hs⟩ : ∃ s, w.heap.size = s := ⟨_, rfl⟩
  have GV : Grew w V := by rw [hV]; exact (((Grew.refl w).alloc _ _).alloc _ _).alloc _ _
  have hVs : V.heap.size = s + 1 + 1 + 1 := by rw [hV, ← hs]; simp
  have hb : W4 V s x y a L.length c b m d := by rw [hV, ← hs]; constructor <;> simp [go_sem]
  have hr : At V (s + 1) 0 0 := by rw [hV, ← hs]; constructor <;> simp [go_sem]
  have ht : At V (s + 1 + 1) 0 0 := by rw [hV, ← hs]; constructor <;> simp [go_sem]
  have hzr : ∀ i, s ≤ i → Free V i := fun i h => GV.freeB (by omega)
  have hL1 := hL.grew GV
  have HT : Hid (Calls Tryz.prog 23 #[.func (.func 24) #[] #[.pointer (some ⟨s, 0, none⟩), .pointer (some ⟨s + 1 + 1, 0, none⟩)]] V fun e w' => But (fun n => n = s + 1 + 1) V w' ∧ ∃ k, e = .returned (.int .i64 k) ∧ k = (sumE L 0 0).2.2 ∧ (k = 0 → At w' (s + 1 + 1) (sumE L 0 0).1 (sumE L 0 0).2.1)) :=
    try_but (S := fun n => n = s + 1 + 1) (P := fun k W => k = (sumE L 0 0).2.2 ∧ (k = 0 → At W (s + 1 + 1) (sumE L 0 0).1 (sumE L 0 0).2.1)) _ _ _ (fun _ => by simp [go_sem]) (fun n hn => by omega) (fun k W W' hh h => ⟨h.1, fun e => (h.2 e).heap (hh _ (by omega))⟩) (fun W0 G =>
      sumc_any L a c (s + 1 + 1) s x y b m d W0 (hb.heap (G.heap hb.size)) (hL1.grew G) hn (fun z off e h => by have := hin z off e h; omega) (ht.grew G) ((hzr _ (by omega)).grew G))
  have HBad := sumE_bad L 0 0
  have HV : Hid (V = _) := hV
  have hB : Hid (Below w.heap.size w V) := GV.below
  have hr1 := hr.size
  obtain ⟨r0, r1⟩ := hr
  have y0 := hzr (s + 1) (by omega) 0 none
  have y1 := hzr (s + 1) (by omega) 1 none
  clear hR hL hL1 hzr hb ht GV hin hV
  generalize sumE L 0 0 = T at *
  unfold worldV
  unfold vec at HRR
  go_enter Tryz.func14, Tryz.ntmps14
  go_upto_region 2 with (fail)
  rw [← HV.out]
  clear HV
  obtain ⟨T1, T2, te⟩ := T
  simp only at HT HBad HRR
  by_cases hte : te = 0
  · subst hte
    go_wp2_with (first
      | (go_at_call 23; go_fit HT.out; rintro e V2 ⟨U2, k, rfl, rfl, hk⟩; (have ⟨t0, t1⟩ : At V2 (s + 1 + 1) T1 T2 := hk rfl); (have k0 := U2.cell r0 (by simp)); (have k1 := U2.cell r1 (by simp)); (have z0 := U2.frozen (p := ⟨s + 1, 0, none⟩) hr1 (by simp) y0); (have z1 := U2.frozen (p := ⟨s + 1, 1, none⟩) hr1 (by simp) y1)))
    have hU := U2.size
    have hW : Below w.heap.size w V2 := hB.out.trans (U2.below (fun n e => by omega) (by omega))
    simp [bodyPost, results, Tryz.results14, go_sem, k0, k1]
    exact HRR.out _ ((hW.setCell (p := ⟨s + 1, 0, none⟩) (by simp; omega) _).setCell (p := ⟨s + 1, 1, none⟩) (by simp; omega) _)
  · obtain ⟨rfl, rfl⟩ := HBad hte
    go_wp2_with (first
      | (go_at_call 23; go_fit HT.out; rintro e V2 ⟨U2, k, rfl, rfl, _⟩; (have k0 := U2.cell r0 (by simp)); (have k1 := U2.cell r1 (by simp)); (have z0 := U2.frozen (p := ⟨s + 1, 0, none⟩) hr1 (by simp) y0); (have z1 := U2.frozen (p := ⟨s + 1, 1, none⟩) hr1 (by simp) y1)))
    have hU := U2.size
    have hW : Below w.heap.size w V2 := hB.out.trans (U2.below (fun n e => by omega) (by omega))
    simp [bodyPost, results, Tryz.results14, go_sem, k0, k1]
    exact HRR.out _ ((hW.setCell (p := ⟨s + 1, 0, none⟩) (by simp; omega) _).setCell (p := ⟨s + 1, 1, none⟩) (by simp; omega) _)
end Go.Proofs.YtnkhknmpffcfbaaGreat
