/-
  Package shelf's Plan and Need. The statements' own first look ('alive' of stage 16's laws): it returns true; what was there stays. And Few.
-/
import Derived.Test.YtbkkhafckkndfaaGreatPk08
namespace Go.Proofs.YtbkkhafckkndfaaGreat
open Go Go.RowKit

/-- Plan's end. -/
def PlanEndK (w : World) (L H : List Pr) (F : List Int) (e : Ending) (w' : World) : Prop := ∃ O root err v, PlanIs L H F O root err ∧ e = .returned (.tuple #[v, .int .i64 root, .int .i64 err]) ∧ w'.ownsRow w.heap.size 49 2 v O.length (prsV O) ∧ Below w.heap.size w w'
theorem kplan_arg {w w' : World} {L H : List Pr} {F : List Int} (h : ¬ (recsOk L = true ∧ PgsOk H F)) (B : Below w.heap.size w w') : PlanEndK w L H F (.returned (.tuple #[.slice none 0 0, .int .i64 0, .int .i64 9])) w' := ⟨[], 0, 9, _, .inl ⟨h, rfl, rfl, rfl⟩, rfl, World.ownsRow_nil _ _ _ _, B⟩
theorem kplan_many {w w' : World} {L H : List Pr} {F : List Int} (h : recsOk L = true ∧ PgsOk H F) (h2 : 21 < (lvs L).1) (B : Below w.heap.size w w') : PlanEndK w L H F (.returned (.tuple #[.slice none 0 0, .int .i64 0, .int .i64 12])) w' := ⟨[], 0, 12, _, .inr (.inl ⟨h, h2, rfl, rfl, rfl⟩), rfl, World.ownsRow_nil _ _ _ _, B⟩
theorem kplan_full {w w' : World} {L H : List Pr} {F : List Int} (h : recsOk L = true ∧ PgsOk H F) (h2 : ¬ 21 < (lvs L).1) (h3 : planR L H F = none) (B : Below w.heap.size w w') : PlanEndK w L H F (.returned (.tuple #[.slice none 0 0, .int .i64 0, .int .i64 8])) w' := ⟨[], 0, 8, _, .inr (.inr (.inl ⟨h, h2, h3, rfl, rfl, rfl⟩)), rfl, World.ownsRow_nil _ _ _ _, B⟩
theorem kplan_done {w w' : World} {L H O : List Pr} {F : List Int} {root : Int} {v : Value} (h : recsOk L = true ∧ PgsOk H F) (h2 : ¬ 21 < (lvs L).1) (h3 : planR L H F = some (O, root)) (hv : w'.ownsRow w.heap.size 49 2 v O.length (prsV O)) (B : Below w.heap.size w w') : PlanEndK w L H F (.returned (.tuple #[v, .int .i64 root, .int .i64 0])) w' := ⟨O, root, 0, _, .inr (.inr (.inr ⟨h, h2, h3, rfl⟩)), rfl, hv, B⟩
theorem pgs_in {H : List Pr} {F : List Int} (h : PgsOk H F) : PgsIn H ⟨[], F⟩ := by
  refine ⟨fun x hx => ?_, fun x hx => (by cases hx), fun n hn => ?_⟩
  · obtain ⟨i, hi, rfl⟩ := List.mem_iff_getElem.1 hx
    have := (h.1 i hi).1
    simpa [List.getD, hi] using this
  · obtain ⟨i, hi, rfl⟩ := List.mem_iff_getElem.1 hn
    have := (h.2 i hi).1
    simpa [List.getD, hi] using this
set_option maxRecDepth 10000 in
set_option maxHeartbeats 4000000 in
theorem kplan_any (L H : List Pr) (F : List Int) (a0 a1 a2 : Option Addr) (d0 d1 d2 : Nat) (w : World) (hL : PrsAt w a0 L) (hH : PrsAt w a1 H) (hF : NumsAt w a2 F) (hFc : F.length ≤ d2) (h0 : L.length < 1000000) (h1 : H.length < 1000000) (h2 : F.length < 1000000) :
    Calls Tryz.prog 15 #[.slice a0 L.length d0, .slice a1 H.length d1, .slice a2 F.length d2] w fun e w' => PlanEndK w L H F e w' := by
  have hR : Hid (Calls Tryz.prog 27 #[.slice a0 L.length d0] w fun e w' => e = .returned (.bool (recsOk L)) ∧ Grew w w') := kright_any L a0 d0 w hL h0
  have hP : Hid (∀ W, Grew w W → Calls Tryz.prog 28 #[.slice a1 H.length d1, .slice a2 F.length d2] W fun e w' => IsB e (PgsOk H F) ∧ Below W.heap.size W w') := fun W g => kpages_any H F a1 a2 d1 d2 W (prs_grew hH g) (nums_grew hF g) (by omega) (by omega)
  have hArg : Hid (¬ (recsOk L = true ∧ PgsOk H F) → ∀ w', Below w.heap.size w w' → PlanEndK w L H F (.returned (.tuple #[.slice none 0 0, .int .i64 0, .int .i64 9])) w') := fun h w' B => kplan_arg h B
  have hN0 : Hid (∀ W, Below w.heap.size w W → Calls Tryz.prog 30 #[.slice a1 H.length d1, .slice a2 F.length d2] W fun e w' => ∃ p, e = .returned (.pointer (some ⟨p, 0, none⟩)) ∧ PlanK W w' p H [] F) := fun W g => knew_any H F a1 a2 d1 d2 W (hH.below g) (hF.below g) hFc h1
  cases hr : recsOk L with
  | false =>
    rw [hr] at hR
    have hE : Hid _ := hArg.out (fun h => by rw [hr] at h; cases h.1)
    clear hr hArg hP hN0
    go_enter Tryz.func15, Tryz.ntmps15
    go_wp2_with (first
      | (go_at_call 27; go_fit hR.out; rintro e w1 ⟨rfl, g1⟩)
      | fail)
    go_ret3
    exact hE.out _ g1.below
  | true =>
    rw [hr] at hR
    by_cases hpg : PgsOk H F
    · replace hP : Hid (∀ W, Grew w W → Calls Tryz.prog 28 #[.slice a1 H.length d1, .slice a2 F.length d2] W fun e w' => e = .returned (.bool true) ∧ Below W.heap.size W w') := fun W g => (hP.out W g).mono fun e w' h => ⟨h.1.yes hpg, h.2⟩
      have hC : Hid (∀ W, Below w.heap.size w W → Calls Tryz.prog 29 #[.slice a0 L.length d0] W fun e w' => e = .returned (.int .i64 (lvs L).1) ∧ Below W.heap.size W w') := fun W g => kcount_any L a0 d0 W (hL.below g) hr h0
      have hok : recsOk L = true ∧ PgsOk H F := ⟨hr, hpg⟩
      by_cases hlv : 21 < (lvs L).1
      · have hE : Hid (∀ w', Below w.heap.size w w' → PlanEndK w L H F (.returned (.tuple #[.slice none 0 0, .int .i64 0, .int .i64 12])) w') := fun w' B => kplan_many hok hlv B
        have hlvi : (21 : Int) < (lvs L).1 := by omega
        generalize (lvs L).1 = nl at *
        clear hr hArg hN0 hpg hok hlv
        go_enter Tryz.func15, Tryz.ntmps15
        go_wp2_with (first
          | (go_at_call 27; go_fit hR.out; rintro e w1 ⟨rfl, g1⟩)
          | (go_at_call 28; go_fit (hP.out _ g1); rintro e w2 ⟨rfl, g2⟩; have b2 := on_two g1.below g2)
          | (go_at_call 29; go_fit (hC.out _ b2); rintro e w3 ⟨rfl, g3⟩; have b3 := on_two b2 g3)
          | fail)
        go_ret3
        exact hE.out _ b3
      · have hlvi : ¬ (21 : Int) < (lvs L).1 := by omega
        have hTr : Hid (∀ W0 W p, Below w.heap.size w W0 → PlanK W0 W p H [] F → Calls Tryz.prog 31 #[.pointer (some ⟨p, 0, none⟩), .slice a0 L.length d0] W fun e w' => TreeK W0 w' p L H F e) := fun W0 W p g hp => ktree_any W0 W p L H F a0 d0 hp (hL.below g) hr (pgs_in hpg) h0 (by omega)
        have hFull : Hid (planR L H F = none → ∀ w', Below w.heap.size w w' → PlanEndK w L H F (.returned (.tuple #[.slice none 0 0, .int .i64 0, .int .i64 8])) w') := fun e w' B => kplan_full hok hlv e B
        have hDone : Hid (∀ O root v w', planR L H F = some (O, root) → w'.ownsRow w.heap.size 49 2 v O.length (prsV O) → Below w.heap.size w w' → PlanEndK w L H F (.returned (.tuple #[v, .int .i64 root, .int .i64 0])) w') := fun O root v w' e hv B => kplan_done hok hlv e hv B
        generalize (lvs L).1 = nl at *
        clear hr hArg hpg hok hlv
        cases hpr : planR L H F with
        | none =>
          have hE : Hid _ := hFull.out hpr
          replace hTr : Hid (∀ W0 W p, Below w.heap.size w W0 → PlanK W0 W p H [] F → Calls Tryz.prog 31 #[.pointer (some ⟨p, 0, none⟩), .slice a0 L.length d0] W fun e w' => e = .returned (.tuple #[.int .i64 0, .bool false]) ∧ Below W0.heap.size W0 w') := fun W0 W p g hp => (hTr.out W0 W p g hp).mono fun e w' he => by unfold TreeK at he; rw [hpr] at he; exact he
          clear hFull hDone hpr
          go_enter Tryz.func15, Tryz.ntmps15
          go_wp2_with (first
            | (go_at_call 27; go_fit hR.out; rintro e w1 ⟨rfl, g1⟩)
            | (go_at_call 28; go_fit (hP.out _ g1); rintro e w2 ⟨rfl, g2⟩; have b2 := on_two g1.below g2)
            | (go_at_call 29; go_fit (hC.out _ b2); rintro e w3 ⟨rfl, g3⟩; have b3 := on_two b2 g3)
            | (go_at_call 30; go_fit (hN0.out _ b3); rintro e w4 ⟨p, rfl, hp4⟩)
            | (go_at_call 31; go_fit (hTr.out _ _ _ b3 hp4); rintro e w5 ⟨rfl, g5⟩; have b5 := on_two b3 g5)
            | fail)
          go_ret3
          exact hE.out _ b5
        | some r =>
          obtain ⟨O, root⟩ := r
          have hE : Hid (∀ v w', w'.ownsRow w.heap.size 49 2 v O.length (prsV O) → Below w.heap.size w w' → PlanEndK w L H F (.returned (.tuple #[v, .int .i64 root, .int .i64 0])) w') := fun v w' => hDone.out O root v w' hpr
          replace hTr : Hid (∀ W0 W p, Below w.heap.size w W0 → PlanK W0 W p H [] F → Calls Tryz.prog 31 #[.pointer (some ⟨p, 0, none⟩), .slice a0 L.length d0] W fun e w' => e = .returned (.tuple #[.int .i64 root, .bool true]) ∧ ∃ F', PlanK W0 w' p H O F') := fun W0 W p g hp => (hTr.out W0 W p g hp).mono fun e w' he => by unfold TreeK at he; rw [hpr] at he; exact he
          clear hFull hDone hpr
          go_enter Tryz.func15, Tryz.ntmps15
          go_wp2_with (first
            | (go_at_call 27; go_fit hR.out; rintro e w1 ⟨rfl, g1⟩)
            | (go_at_call 28; go_fit (hP.out _ g1); rintro e w2 ⟨rfl, g2⟩; have b2 := on_two g1.below g2)
            | (go_at_call 29; go_fit (hC.out _ b2); rintro e w3 ⟨rfl, g3⟩; have b3 := on_two b2 g3)
            | (go_at_call 30; go_fit (hN0.out _ b3); rintro e w4 ⟨p, rfl, hp4⟩)
            | (go_at_call 31; go_fit (hTr.out _ _ _ b3 hp4); rintro e w5 ⟨rfl, F', mb, ao, co, af, cf, hk⟩; have b5 := on_two b3 hk.bel; have c0 := hk.v.c0; have r5 := row_base hk.row b3.size; clear hk)
            | fail)
          go_ret3
          exact hE.out _ _ r5 b5
    · have hE : Hid _ := hArg.out (fun h => hpg h.2)
      replace hP : Hid (∀ W, Grew w W → Calls Tryz.prog 28 #[.slice a1 H.length d1, .slice a2 F.length d2] W fun e w' => e = .returned (.bool false) ∧ Below W.heap.size W w') := fun W g => (hP.out W g).mono fun e w' h => ⟨h.1.no hpg, h.2⟩
      clear hr hArg hN0 hpg
      go_enter Tryz.func15, Tryz.ntmps15
      go_wp2_with (first
        | (go_at_call 27; go_fit hR.out; rintro e w1 ⟨rfl, g1⟩)
        | (go_at_call 28; go_fit (hP.out _ g1); rintro e w2 ⟨rfl, g2⟩; have b2 := on_two g1.below g2)
        | fail)
      go_ret3
      exact hE.out _ b2
/-- How many pages records take. -/
def needN (L : List Pr) : Nat := match (if recsOk L = true ∧ ¬ 21 < (lvs L).1 then planR L [] (numsT 198) else none) with
  | some (O, _) => O.length
  | none => 0
theorem pgs_all : PgsOk [] (numsT 198) := by
  refine ⟨fun i hi => absurd hi (by simp), fun i hi => ?_⟩
  rw [numsT_len] at hi
  refine ⟨?_, fun k hk => ?_⟩
  · rw [numsT_get _ hi, pageB_iff]
    omega
  · rw [numsT_get _ hi, numsT_get _ (by omega)]
    omega
theorem need_is {L O : List Pr} {root err : Int} (h : PlanIs L [] (numsT 198) O root err) : O.length = needN L := by
  unfold needN
  rcases h with ⟨h1, rfl, _⟩ | ⟨h1, h2, rfl, _⟩ | ⟨h1, h2, h3, rfl, _⟩ | ⟨h1, h2, h3, _⟩
  · rw [if_neg (fun e => h1 ⟨e.1, pgs_all⟩)]; rfl
  · rw [if_neg (fun e => e.2 h2)]; rfl
  · rw [if_pos ⟨h1.1, h2⟩, h3]; rfl
  · rw [if_pos ⟨h1.1, h2⟩, h3]
set_option maxHeartbeats 1000000 in
theorem kneed_any (L : List Pr) (a : Option Addr) (d : Nat) (w : World) (hL : PrsAt w a L) (h0 : L.length < 1000000) :
    Calls Tryz.prog 16 #[.slice a L.length d] w fun e w' => e = .returned (.int .i64 (needN L)) ∧ Below w.heap.size w w' := by
  obtain ⟨N, hN⟩ : ∃ N : Nat, needN L = N := ⟨_, rfl⟩
  have hP : Hid (∀ W a2 d2, Below w.heap.size w W → NumsAt W a2 (numsT 198) → 198 ≤ d2 → Calls Tryz.prog 15 #[.slice a L.length d, .slice none 0 0, .slice a2 198 d2] W fun e w' => ∃ a3 c3 root err, e = .returned (.tuple #[.slice a3 N c3, .int .i64 root, .int .i64 err]) ∧ Below W.heap.size W w') := fun W a2 d2 g hn hd => by
    have := kplan_any L [] (numsT 198) a none a2 d 0 d2 W (hL.below g) (.inl rfl) hn (by rw [numsT_len]; exact hd) h0 (by simp) (by rw [numsT_len]; omega)
    rw [numsT_len] at this
    refine this.mono fun e w' he => ?_
    obtain ⟨O, root, err, v, h1, rfl, h3, h4⟩ := he
    have h5 := need_is h1
    rw [hN] at h5
    rw [h5] at h3
    obtain ⟨a3, c3, rfl, _⟩ := own_reads h3
    exact ⟨a3, c3, root, err, rfl, h4⟩
  rw [hN]
  clear hN hL
  go_enter Tryz.func16, Tryz.ntmps16
  go_wp2_with (first
    | (go_at_call 32; go_fit (kall_any _); rintro e w1 ⟨v, rfl, hv, g1⟩; obtain ⟨a2, d2, rfl, hn2, hd2⟩ := nums_of hv)
    | (go_at_call 15; go_fit (hP.out _ _ _ g1 hn2 hd2); rintro e w2 ⟨a3, c3, root, err, rfl, g2⟩)
    | fail)
  go_ret
  exact ⟨rfl, on_two g1 g2⟩
end Go.Proofs.YtbkkhafckkndfaaGreat

namespace Go.Proofs.YtbkkhafckkndfaaGreat
open Go Go.RowKit

def mabcB : ByteArray := ⟨#[97, 98, 99]⟩
def L1 : List Pr := [⟨1, mabcB⟩]
theorem L1_recs : recsOk L1 = true := by decide +kernel
theorem L1_lvs : ¬ 21 < (lvs L1).1 := by decide +kernel
theorem L1_plan : (planR L1 [] [4, 5, 6]).map (fun r => (r.1.map (·.n), r.2)) = some ([4, 5], 5) := by decide +kernel
theorem L1_need : needN L1 = 2 := by decide +kernel
theorem pgs_456 : PgsOk [] [4, 5, 6] := by
  refine ⟨fun i hi => absurd hi (by simp), fun i hi => ?_⟩
  have : i = 0 ∨ i = 1 ∨ i = 2 := by simp at hi; omega
  rcases this with rfl | rfl | rfl
  · exact ⟨by decide, fun k hk => absurd hk (by omega)⟩
  · refine ⟨by decide, fun k hk => ?_⟩
    obtain rfl : k = 0 := by omega
    decide
  · refine ⟨by decide, fun k hk => ?_⟩
    have : k = 0 ∨ k = 1 := by omega
    rcases this with rfl | rfl <;> decide
theorem plan_of {L H O O' : List Pr} {F : List Int} {root r' err : Int} (h : PlanIs L H F O root err) (hr : recsOk L = true) (hp : PgsOk H F) (hl : ¬ 21 < (lvs L).1) (hpl : planR L H F = some (O', r')) : O = O' ∧ root = r' ∧ err = 0 := by
  rcases h with ⟨h1, _⟩ | ⟨_, h2, _⟩ | ⟨_, _, h3, _⟩ | ⟨_, _, h3, h4⟩
  · exact absurd ⟨hr, hp⟩ h1
  · exact absurd h2 hl
  · rw [h3] at hpl; cases hpl
  · rw [h3] at hpl
    cases hpl
    exact ⟨rfl, rfl, h4⟩
set_option maxHeartbeats 2000000 in
theorem alive16 (w : World) : Calls Tryz.prog 4 #[] w fun e w' => e = .returned (.bool true) ∧ Below w.heap.size w w' := by
  obtain ⟨O1, hO1⟩ : ∃ O1, planR L1 [] [4, 5, 6] = some (O1, 5) ∧ O1.map (·.n) = [4, 5] := by
    have h := L1_plan
    cases e : planR L1 [] [4, 5, 6] with
    | none => rw [e] at h; cases h
    | some r =>
      rw [e] at h
      simp only [Option.map_some, Option.some.injEq, Prod.mk.injEq] at h
      exact ⟨r.1, by rw [← h.2], h.1⟩
  have hrec : ∀ W : World, PrsAt (W.alloc (.cells #[.int .i64 1, .string mabcB] 46)) (some ⟨W.heap.size, 0, none⟩) L1 := fun W => by
    refine .inr ⟨W.heap.size, 0, rfl, fun i hi => ?_⟩
    obtain rfl : i = 0 := by simp [L1] at hi; omega
    exact ⟨new_at W [.int .i64 1, .string mabcB] 46 _ rfl 0 _ rfl, new_at W [.int .i64 1, .string mabcB] 46 _ rfl 1 _ rfl⟩
  have hP : Hid (∀ W, Calls Tryz.prog 15 #[.slice (some ⟨W.heap.size, 0, none⟩) 1 1, .slice none 0 0, .slice (some ⟨W.heap.size + 1, 0, none⟩) 3 3] ((W.alloc (.cells #[.int .i64 1, .string mabcB] 46)).alloc (.cells #[.int .i64 4, .int .i64 5, .int .i64 6] 3)) fun e w' => ∃ g c, e = .returned (.tuple #[.slice (some ⟨g, 0, none⟩) 2 c, .int .i64 5, .int .i64 0]) ∧ w'.cell? ⟨g, 0, none⟩ = some (.int .i64 4) ∧ w'.cell? ⟨g, 2, none⟩ = some (.int .i64 5) ∧ Below W.heap.size W w') := fun W => by
    have g0 := (((Grew.refl W).alloc (#[.int .i64 1, .string mabcB] : Array Value) 46).alloc (#[.int .i64 4, .int .i64 5, .int .i64 6] : Array Value) 3)
    have hn : NumsAt ((W.alloc (.cells #[.int .i64 1, .string mabcB] 46)).alloc (.cells #[.int .i64 4, .int .i64 5, .int .i64 6] 3)) (some ⟨W.heap.size + 1, 0, none⟩) [4, 5, 6] := by
      refine .inr ⟨_, 0, rfl, fun i hi => ?_⟩
      have : i = 0 ∨ i = 1 ∨ i = 2 := by simp at hi; omega
      rcases this with rfl | rfl | rfl
      · exact new_at _ [.int .i64 4, .int .i64 5, .int .i64 6] 3 _ (World.size_alloc _ _).symm 0 _ rfl
      · exact new_at _ [.int .i64 4, .int .i64 5, .int .i64 6] 3 _ (World.size_alloc _ _).symm 1 _ rfl
      · exact new_at _ [.int .i64 4, .int .i64 5, .int .i64 6] 3 _ (World.size_alloc _ _).symm 2 _ rfl
    refine (kplan_any L1 [] [4, 5, 6] _ none _ 1 0 3 _ ((hrec W).below ((Grew.refl _).alloc _ _).below) (.inl rfl) hn (Nat.le_refl _) (by decide) (by decide) (by decide)).mono fun e w' he => ?_
    obtain ⟨O, root, err, v, h1, rfl, h3, h4⟩ := he
    obtain ⟨rfl, rfl, rfl⟩ := plan_of h1 L1_recs pgs_456 L1_lvs hO1.1
    have hl : O.length = 2 := by have := congrArg List.length hO1.2; simpa using this
    have hB : Below W.heap.size W w' := g0.below.trans (h4.mono (by simp; omega))
    rcases O with _ | ⟨x, _ | ⟨y, _ | ⟨z, O⟩⟩⟩
    · cases hl
    · cases hl
    · have h9 := hO1.2
      simp only [List.map_cons, List.map_nil, List.cons.injEq, and_true] at h9
      rcases h3.2 with ⟨_, h0⟩ | ⟨g, cap, cur, rfl, _⟩
      · cases h0
      · refine ⟨g, cap, rfl, ?_, ?_, hB⟩
        · rw [h3.cellAt 0 (by simp), ← h9.1]; rfl
        · rw [h3.cellAt 2 (by simp), ← h9.2]; rfl
    · simp at hl
  have hN : Hid (∀ W, Calls Tryz.prog 16 #[.slice (some ⟨W.heap.size, 0, none⟩) 1 1] (W.alloc (.cells #[.int .i64 1, .string mabcB] 46)) fun e w' => e = .returned (.int .i64 2) ∧ Below W.heap.size W w') := fun W => by
    have := kneed_any L1 _ 1 _ (hrec W) (by decide)
    rw [L1_need] at this
    exact this.mono fun e w' he => ⟨he.1, ((Grew.refl W).alloc _ _).below.trans (he.2.mono (by simp))⟩
  clear hO1 hrec
  go_enter Tryz.func4, Tryz.ntmps4
  go_wp2_with (first
    | (go_at_call 15; go_fit (hP.out _); rintro e w1 ⟨g, c, rfl, c0, c2, B1⟩)
    | (go_at_call 16; go_fit (hN.out _); rintro e w2 ⟨rfl, B2⟩)
    | fail)
  go_ret
  exact ⟨rfl, on_two B1 B2⟩
/-- What Few tells. -/
def FewEnd (n : Nat) (e : Ending) : Prop := ∃ r, e = .returned (.bool r) ∧ (r = true → n ≤ 120)
end Go.Proofs.YtbkkhafckkndfaaGreat
