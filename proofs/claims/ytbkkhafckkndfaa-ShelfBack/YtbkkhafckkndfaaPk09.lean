/-
  Package shelf's Plan and Need. The statements' own first look ('alive' of stage 16's laws): it returns true; what was there stays. And Few. Chapter 16's laws in plain lists: what a plan takes of free pages, and what a second plan over the first writes. No program in sight. Chapter 16's laws in plain lists: where free pages are enough. No program in sight.
-/
import Derived.Test.YtbkkhafckkndfaaPk08
namespace Go.Proofs.Ytbkkhafckkndfaa
open Go Go.RowKit

/-- Plan's end. -/
def PlanEndK (w : World) (L H : List Pr) (F : List Int) (e : Ending) (w' : World) : Prop := ∃ O root err v, PlanIs L H F O root err ∧ e = .returned (.tuple #[v, .int .i64 root, .int .i64 err]) ∧ w'.ownsRow w.heap.size 28 2 v O.length (prsV O) ∧ Below w.heap.size w w'
theorem kplan_arg {w w' : World} {L H : List Pr} {F : List Int} (h : ¬ (recsOk L = true ∧ PgsOk H F)) (B : Below w.heap.size w w') : PlanEndK w L H F (.returned (.tuple #[.slice none 0 0, .int .i64 0, .int .i64 9])) w' := ⟨[], 0, 9, _, .inl ⟨h, rfl, rfl, rfl⟩, rfl, World.ownsRow_nil _ _ _ _, B⟩
theorem kplan_many {w w' : World} {L H : List Pr} {F : List Int} (h : recsOk L = true ∧ PgsOk H F) (h2 : 21 < (lvs L).1) (B : Below w.heap.size w w') : PlanEndK w L H F (.returned (.tuple #[.slice none 0 0, .int .i64 0, .int .i64 12])) w' := ⟨[], 0, 12, _, .inr (.inl ⟨h, h2, rfl, rfl, rfl⟩), rfl, World.ownsRow_nil _ _ _ _, B⟩
theorem kplan_full {w w' : World} {L H : List Pr} {F : List Int} (h : recsOk L = true ∧ PgsOk H F) (h2 : ¬ 21 < (lvs L).1) (h3 : planR L H F = none) (B : Below w.heap.size w w') : PlanEndK w L H F (.returned (.tuple #[.slice none 0 0, .int .i64 0, .int .i64 8])) w' := ⟨[], 0, 8, _, .inr (.inr (.inl ⟨h, h2, h3, rfl, rfl, rfl⟩)), rfl, World.ownsRow_nil _ _ _ _, B⟩
theorem kplan_done {w w' : World} {L H O : List Pr} {F : List Int} {root : Int} {v : Value} (h : recsOk L = true ∧ PgsOk H F) (h2 : ¬ 21 < (lvs L).1) (h3 : planR L H F = some (O, root)) (hv : w'.ownsRow w.heap.size 28 2 v O.length (prsV O)) (B : Below w.heap.size w w') : PlanEndK w L H F (.returned (.tuple #[v, .int .i64 root, .int .i64 0])) w' := ⟨O, root, 0, _, .inr (.inr (.inr ⟨h, h2, h3, rfl⟩)), rfl, hv, B⟩
theorem pgs_in {H : List Pr} {F : List Int} (h : PgsOk H F) : PgsIn H ⟨[], F⟩ := by
  refine ⟨fun x hx => ?_, fun x hx => (by cases hx), fun n hn => ?_⟩
  · obtain ⟨i, hi, rfl⟩ := List.mem_iff_getElem.1 hx
    have := (h.1 i hi).1
    simpa [List.getD, hi] using this
  · obtain ⟨i, hi, rfl⟩ := List.mem_iff_getElem.1 hn
    have := (h.2 i hi).1
    simpa [List.getD, hi] using this
set_option maxRecDepth 10000 in
set_option maxHeartbeats 4000000 in
theorem kplan_any (L H : List Pr) (F : List Int) (a0 a1 a2 : Option Addr) (d0 d1 d2 : Nat) (w : World) (hL : PrsAt w a0 L) (hH : PrsAt w a1 H) (hF : NumsAt w a2 F) (hFc : F.length ≤ d2) (h0 : L.length < 1000000) (h1 : H.length < 1000000) (h2 : F.length < 1000000) :
    Calls Try.prog 10 #[.slice a0 L.length d0, .slice a1 H.length d1, .slice a2 F.length d2] w fun e w' => PlanEndK w L H F e w' := by
  have hR : Hid (Calls Try.prog 16 #[.slice a0 L.length d0] w fun e w' => e = .returned (.bool (recsOk L)) ∧ Grew w w') := kright_any L a0 d0 w hL h0
  have hP : Hid (∀ W, Grew w W → Calls Try.prog 23 #[.slice a1 H.length d1, .slice a2 F.length d2] W fun e w' => IsB e (PgsOk H F) ∧ Below W.heap.size W w') := fun W g => kpages_any H F a1 a2 d1 d2 W (prs_grew hH g) (nums_grew hF g) (by omega) (by omega)
  have hArg : Hid (¬ (recsOk L = true ∧ PgsOk H F) → ∀ w', Below w.heap.size w w' → PlanEndK w L H F (.returned (.tuple #[.slice none 0 0, .int .i64 0, .int .i64 9])) w') := fun h w' B => kplan_arg h B
  have hN0 : Hid (∀ W, Below w.heap.size w W → Calls Try.prog 25 #[.slice a1 H.length d1, .slice a2 F.length d2] W fun e w' => ∃ p, e = .returned (.pointer (some ⟨p, 0, none⟩)) ∧ PlanK W w' p H [] F) := fun W g => knew_any H F a1 a2 d1 d2 W (hH.below g) (hF.below g) hFc h1
  cases hr : recsOk L with
  | false =>
    rw [hr] at hR
    have hE : Hid _ := hArg.out (fun h => by rw [hr] at h; cases h.1)
    clear hr hArg hP hN0
    go_enter Try.func10, Try.ntmps10
    go_wp2_with (first
      | (go_at_call 16; go_fit hR.out; rintro e w1 ⟨rfl, g1⟩)
      | fail)
    go_ret3
    exact hE.out _ g1.below
  | true =>
    rw [hr] at hR
    by_cases hpg : PgsOk H F
    · replace hP : Hid (∀ W, Grew w W → Calls Try.prog 23 #[.slice a1 H.length d1, .slice a2 F.length d2] W fun e w' => e = .returned (.bool true) ∧ Below W.heap.size W w') := fun W g => (hP.out W g).mono fun e w' h => ⟨h.1.yes hpg, h.2⟩
      have hC : Hid (∀ W, Below w.heap.size w W → Calls Try.prog 24 #[.slice a0 L.length d0] W fun e w' => e = .returned (.int .i64 (lvs L).1) ∧ Below W.heap.size W w') := fun W g => kcount_any L a0 d0 W (hL.below g) hr h0
      have hok : recsOk L = true ∧ PgsOk H F := ⟨hr, hpg⟩
      by_cases hlv : 21 < (lvs L).1
      · have hE : Hid (∀ w', Below w.heap.size w w' → PlanEndK w L H F (.returned (.tuple #[.slice none 0 0, .int .i64 0, .int .i64 12])) w') := fun w' B => kplan_many hok hlv B
        have hlvi : (21 : Int) < (lvs L).1 := by omega
        generalize (lvs L).1 = nl at *
        clear hr hArg hN0 hpg hok hlv
        go_enter Try.func10, Try.ntmps10
        go_wp2_with (first
          | (go_at_call 16; go_fit hR.out; rintro e w1 ⟨rfl, g1⟩)
          | (go_at_call 23; go_fit (hP.out _ g1); rintro e w2 ⟨rfl, g2⟩; have b2 := on_two g1.below g2)
          | (go_at_call 24; go_fit (hC.out _ b2); rintro e w3 ⟨rfl, g3⟩; have b3 := on_two b2 g3)
          | fail)
        go_ret3
        exact hE.out _ b3
      · have hlvi : ¬ (21 : Int) < (lvs L).1 := by omega
        have hTr : Hid (∀ W0 W p, Below w.heap.size w W0 → PlanK W0 W p H [] F → Calls Try.prog 26 #[.pointer (some ⟨p, 0, none⟩), .slice a0 L.length d0] W fun e w' => TreeK W0 w' p L H F e) := fun W0 W p g hp => ktree_any W0 W p L H F a0 d0 hp (hL.below g) hr (pgs_in hpg) h0 (by omega)
        have hFull : Hid (planR L H F = none → ∀ w', Below w.heap.size w w' → PlanEndK w L H F (.returned (.tuple #[.slice none 0 0, .int .i64 0, .int .i64 8])) w') := fun e w' B => kplan_full hok hlv e B
        have hDone : Hid (∀ O root v w', planR L H F = some (O, root) → w'.ownsRow w.heap.size 28 2 v O.length (prsV O) → Below w.heap.size w w' → PlanEndK w L H F (.returned (.tuple #[v, .int .i64 root, .int .i64 0])) w') := fun O root v w' e hv B => kplan_done hok hlv e hv B
        generalize (lvs L).1 = nl at *
        clear hr hArg hpg hok hlv
        cases hpr : planR L H F with
        | none =>
          have hE : Hid _ := hFull.out hpr
          replace hTr : Hid (∀ W0 W p, Below w.heap.size w W0 → PlanK W0 W p H [] F → Calls Try.prog 26 #[.pointer (some ⟨p, 0, none⟩), .slice a0 L.length d0] W fun e w' => e = .returned (.tuple #[.int .i64 0, .bool false]) ∧ Below W0.heap.size W0 w') := fun W0 W p g hp => (hTr.out W0 W p g hp).mono fun e w' he => by unfold TreeK at he; rw [hpr] at he; exact he
          clear hFull hDone hpr
          go_enter Try.func10, Try.ntmps10
          go_wp2_with (first
            | (go_at_call 16; go_fit hR.out; rintro e w1 ⟨rfl, g1⟩)
            | (go_at_call 23; go_fit (hP.out _ g1); rintro e w2 ⟨rfl, g2⟩; have b2 := on_two g1.below g2)
            | (go_at_call 24; go_fit (hC.out _ b2); rintro e w3 ⟨rfl, g3⟩; have b3 := on_two b2 g3)
            | (go_at_call 25; go_fit (hN0.out _ b3); rintro e w4 ⟨p, rfl, hp4⟩)
            | (go_at_call 26; go_fit (hTr.out _ _ _ b3 hp4); rintro e w5 ⟨rfl, g5⟩; have b5 := on_two b3 g5)
            | fail)
          go_ret3
          exact hE.out _ b5
        | some r =>
          obtain ⟨O, root⟩ := r
          have hE : Hid (∀ v w', w'.ownsRow w.heap.size 28 2 v O.length (prsV O) → Below w.heap.size w w' → PlanEndK w L H F (.returned (.tuple #[v, .int .i64 root, .int .i64 0])) w') := fun v w' => hDone.out O root v w' hpr
          replace hTr : Hid (∀ W0 W p, Below w.heap.size w W0 → PlanK W0 W p H [] F → Calls Try.prog 26 #[.pointer (some ⟨p, 0, none⟩), .slice a0 L.length d0] W fun e w' => e = .returned (.tuple #[.int .i64 root, .bool true]) ∧ ∃ F', PlanK W0 w' p H O F') := fun W0 W p g hp => (hTr.out W0 W p g hp).mono fun e w' he => by unfold TreeK at he; rw [hpr] at he; exact he
          clear hFull hDone hpr
          go_enter Try.func10, Try.ntmps10
          go_wp2_with (first
            | (go_at_call 16; go_fit hR.out; rintro e w1 ⟨rfl, g1⟩)
            | (go_at_call 23; go_fit (hP.out _ g1); rintro e w2 ⟨rfl, g2⟩; have b2 := on_two g1.below g2)
            | (go_at_call 24; go_fit (hC.out _ b2); rintro e w3 ⟨rfl, g3⟩; have b3 := on_two b2 g3)
            | (go_at_call 25; go_fit (hN0.out _ b3); rintro e w4 ⟨p, rfl, hp4⟩)
            | (go_at_call 26; go_fit (hTr.out _ _ _ b3 hp4); rintro e w5 ⟨rfl, F', mb, ao, co, af, cf, hk⟩; have b5 := on_two b3 hk.bel; have c0 := hk.v.c0; have r5 := row_base hk.row b3.size; clear hk)
            | fail)
          go_ret3
          exact hE.out _ _ r5 b5
    · have hE : Hid _ := hArg.out (fun h => hpg h.2)
      replace hP : Hid (∀ W, Grew w W → Calls Try.prog 23 #[.slice a1 H.length d1, .slice a2 F.length d2] W fun e w' => e = .returned (.bool false) ∧ Below W.heap.size W w') := fun W g => (hP.out W g).mono fun e w' h => ⟨h.1.no hpg, h.2⟩
      clear hr hArg hN0 hpg
      go_enter Try.func10, Try.ntmps10
      go_wp2_with (first
        | (go_at_call 16; go_fit hR.out; rintro e w1 ⟨rfl, g1⟩)
        | (go_at_call 23; go_fit (hP.out _ g1); rintro e w2 ⟨rfl, g2⟩; have b2 := on_two g1.below g2)
        | fail)
      go_ret3
      exact hE.out _ b2
/-- How many pages records take. -/
def needN (L : List Pr) : Nat := match (if recsOk L = true ∧ ¬ 21 < (lvs L).1 then planR L [] (numsT 198) else none) with
  | some (O, _) => O.length
  | none => 0
theorem pgs_all : PgsOk [] (numsT 198) := by
  refine ⟨fun i hi => absurd hi (by simp), fun i hi => ?_⟩
  rw [numsT_len] at hi
  refine ⟨?_, fun k hk => ?_⟩
  · rw [numsT_get _ hi, pageB_iff]
    omega
  · rw [numsT_get _ hi, numsT_get _ (by omega)]
    omega
theorem need_is {L O : List Pr} {root err : Int} (h : PlanIs L [] (numsT 198) O root err) : O.length = needN L := by
  unfold needN
  rcases h with ⟨h1, rfl, _⟩ | ⟨h1, h2, rfl, _⟩ | ⟨h1, h2, h3, rfl, _⟩ | ⟨h1, h2, h3, _⟩
  · rw [if_neg (fun e => h1 ⟨e.1, pgs_all⟩)]; rfl
  · rw [if_neg (fun e => e.2 h2)]; rfl
  · rw [if_pos ⟨h1.1, h2⟩, h3]; rfl
  · rw [if_pos ⟨h1.1, h2⟩, h3]
set_option maxHeartbeats 1000000 in
theorem kneed_any (L : List Pr) (a : Option Addr) (d : Nat) (w : World) (hL : PrsAt w a L) (h0 : L.length < 1000000) :
    Calls Try.prog 15 #[.slice a L.length d] w fun e w' => e = .returned (.int .i64 (needN L)) ∧ Below w.heap.size w w' := by
  obtain ⟨N, hN⟩ : ∃ N : Nat, needN L = N := ⟨_, rfl⟩
  have hP : Hid (∀ W a2 d2, Below w.heap.size w W → NumsAt W a2 (numsT 198) → 198 ≤ d2 → Calls Try.prog 10 #[.slice a L.length d, .slice none 0 0, .slice a2 198 d2] W fun e w' => ∃ a3 c3 root err, e = .returned (.tuple #[.slice a3 N c3, .int .i64 root, .int .i64 err]) ∧ Below W.heap.size W w') := fun W a2 d2 g hn hd => by
    have := kplan_any L [] (numsT 198) a none a2 d 0 d2 W (hL.below g) (.inl rfl) hn (by rw [numsT_len]; exact hd) h0 (by simp) (by rw [numsT_len]; omega)
    rw [numsT_len] at this
    refine this.mono fun e w' he => ?_
    obtain ⟨O, root, err, v, h1, rfl, h3, h4⟩ := he
    have h5 := need_is h1
    rw [hN] at h5
    rw [h5] at h3
    obtain ⟨a3, c3, rfl, _⟩ := own_reads h3
    exact ⟨a3, c3, root, err, rfl, h4⟩
  rw [hN]
  clear hN hL
  go_enter Try.func15, Try.ntmps15
  go_wp2_with (first
    | (go_at_call 33; go_fit (kall_any _); rintro e w1 ⟨v, rfl, hv, g1⟩; obtain ⟨a2, d2, rfl, hn2, hd2⟩ := nums_of hv)
    | (go_at_call 10; go_fit (hP.out _ _ _ g1 hn2 hd2); rintro e w2 ⟨a3, c3, root, err, rfl, g2⟩)
    | fail)
  go_ret
  exact ⟨rfl, on_two g1 g2⟩
end Go.Proofs.Ytbkkhafckkndfaa

namespace Go.Proofs.Ytbkkhafckkndfaa
open Go Go.RowKit

def abcB : ByteArray := ⟨#[97, 98, 99]⟩
def L1 : List Pr := [⟨1, abcB⟩]
theorem L1_recs : recsOk L1 = true := by decide +kernel
theorem L1_lvs : ¬ 21 < (lvs L1).1 := by decide +kernel
theorem L1_plan : (planR L1 [] [4, 5, 6]).map (fun r => (r.1.map (·.n), r.2)) = some ([4, 5], 5) := by decide +kernel
theorem L1_need : needN L1 = 2 := by decide +kernel
theorem pgs_456 : PgsOk [] [4, 5, 6] := by
  refine ⟨fun i hi => absurd hi (by simp), fun i hi => ?_⟩
  have : i = 0 ∨ i = 1 ∨ i = 2 := by simp at hi; omega
  rcases this with rfl | rfl | rfl
  · exact ⟨by decide, fun k hk => absurd hk (by omega)⟩
  · refine ⟨by decide, fun k hk => ?_⟩
    obtain rfl : k = 0 := by omega
    decide
  · refine ⟨by decide, fun k hk => ?_⟩
    have : k = 0 ∨ k = 1 := by omega
    rcases this with rfl | rfl <;> decide
theorem plan_of {L H O O' : List Pr} {F : List Int} {root r' err : Int} (h : PlanIs L H F O root err) (hr : recsOk L = true) (hp : PgsOk H F) (hl : ¬ 21 < (lvs L).1) (hpl : planR L H F = some (O', r')) : O = O' ∧ root = r' ∧ err = 0 := by
  rcases h with ⟨h1, _⟩ | ⟨_, h2, _⟩ | ⟨_, _, h3, _⟩ | ⟨_, _, h3, h4⟩
  · exact absurd ⟨hr, hp⟩ h1
  · exact absurd h2 hl
  · rw [h3] at hpl; cases hpl
  · rw [h3] at hpl
    cases hpl
    exact ⟨rfl, rfl, h4⟩
set_option maxHeartbeats 2000000 in
theorem alive16 (w : World) : Calls Try.prog 9 #[] w fun e w' => e = .returned (.bool true) ∧ Below w.heap.size w w' := by
  obtain ⟨O1, hO1⟩ : ∃ O1, planR L1 [] [4, 5, 6] = some (O1, 5) ∧ O1.map (·.n) = [4, 5] := by
    have h := L1_plan
    cases e : planR L1 [] [4, 5, 6] with
    | none => rw [e] at h; cases h
    | some r =>
      rw [e] at h
      simp only [Option.map_some, Option.some.injEq, Prod.mk.injEq] at h
      exact ⟨r.1, by rw [← h.2], h.1⟩
  have hrec : ∀ W : World, PrsAt (W.alloc (.cells #[.int .i64 1, .string abcB] 53)) (some ⟨W.heap.size, 0, none⟩) L1 := fun W => by
    refine .inr ⟨W.heap.size, 0, rfl, fun i hi => ?_⟩
    obtain rfl : i = 0 := by simp [L1] at hi; omega
    exact ⟨new_at W [.int .i64 1, .string abcB] 53 _ rfl 0 _ rfl, new_at W [.int .i64 1, .string abcB] 53 _ rfl 1 _ rfl⟩
  have hP : Hid (∀ W, Calls Try.prog 10 #[.slice (some ⟨W.heap.size, 0, none⟩) 1 1, .slice none 0 0, .slice (some ⟨W.heap.size + 1, 0, none⟩) 3 3] ((W.alloc (.cells #[.int .i64 1, .string abcB] 53)).alloc (.cells #[.int .i64 4, .int .i64 5, .int .i64 6] 3)) fun e w' => ∃ g c, e = .returned (.tuple #[.slice (some ⟨g, 0, none⟩) 2 c, .int .i64 5, .int .i64 0]) ∧ w'.cell? ⟨g, 0, none⟩ = some (.int .i64 4) ∧ w'.cell? ⟨g, 2, none⟩ = some (.int .i64 5) ∧ Below W.heap.size W w') := fun W => by
    have g0 := (((Grew.refl W).alloc (#[.int .i64 1, .string abcB] : Array Value) 53).alloc (#[.int .i64 4, .int .i64 5, .int .i64 6] : Array Value) 3)
    have hn : NumsAt ((W.alloc (.cells #[.int .i64 1, .string abcB] 53)).alloc (.cells #[.int .i64 4, .int .i64 5, .int .i64 6] 3)) (some ⟨W.heap.size + 1, 0, none⟩) [4, 5, 6] := by
      refine .inr ⟨_, 0, rfl, fun i hi => ?_⟩
      have : i = 0 ∨ i = 1 ∨ i = 2 := by simp at hi; omega
      rcases this with rfl | rfl | rfl
      · exact new_at _ [.int .i64 4, .int .i64 5, .int .i64 6] 3 _ (World.size_alloc _ _).symm 0 _ rfl
      · exact new_at _ [.int .i64 4, .int .i64 5, .int .i64 6] 3 _ (World.size_alloc _ _).symm 1 _ rfl
      · exact new_at _ [.int .i64 4, .int .i64 5, .int .i64 6] 3 _ (World.size_alloc _ _).symm 2 _ rfl
    refine (kplan_any L1 [] [4, 5, 6] _ none _ 1 0 3 _ ((hrec W).below ((Grew.refl _).alloc _ _).below) (.inl rfl) hn (Nat.le_refl _) (by decide) (by decide) (by decide)).mono fun e w' he => ?_
    obtain ⟨O, root, err, v, h1, rfl, h3, h4⟩ := he
    obtain ⟨rfl, rfl, rfl⟩ := plan_of h1 L1_recs pgs_456 L1_lvs hO1.1
    have hl : O.length = 2 := by have := congrArg List.length hO1.2; simpa using this
    have hB : Below W.heap.size W w' := g0.below.trans (h4.mono (by simp; omega))
    rcases O with _ | ⟨x, _ | ⟨y, _ | ⟨z, O⟩⟩⟩
    · cases hl
    · cases hl
    · have h9 := hO1.2
      simp only [List.map_cons, List.map_nil, List.cons.injEq, and_true] at h9
      rcases h3.2 with ⟨_, h0⟩ | ⟨g, cap, cur, rfl, _⟩
      · cases h0
      · refine ⟨g, cap, rfl, ?_, ?_, hB⟩
        · rw [h3.cellAt 0 (by simp), ← h9.1]; rfl
        · rw [h3.cellAt 2 (by simp), ← h9.2]; rfl
    · simp at hl
  have hN : Hid (∀ W, Calls Try.prog 15 #[.slice (some ⟨W.heap.size, 0, none⟩) 1 1] (W.alloc (.cells #[.int .i64 1, .string abcB] 53)) fun e w' => e = .returned (.int .i64 2) ∧ Below W.heap.size W w') := fun W => by
    have := kneed_any L1 _ 1 _ (hrec W) (by decide)
    rw [L1_need] at this
    exact this.mono fun e w' he => ⟨he.1, ((Grew.refl W).alloc _ _).below.trans (he.2.mono (by simp))⟩
  clear hO1 hrec
  go_enter Try.func9, Try.ntmps9
  go_wp2_with (first
    | (go_at_call 10; go_fit (hP.out _); rintro e w1 ⟨g, c, rfl, c0, c2, B1⟩)
    | (go_at_call 15; go_fit (hN.out _); rintro e w2 ⟨rfl, B2⟩)
    | fail)
  go_ret
  exact ⟨rfl, on_two B1 B2⟩
/-- What Few tells. -/
def FewEnd (n : Nat) (e : Ending) : Prop := ∃ r, e = .returned (.bool r) ∧ (r = true → n ≤ 120)
set_option maxHeartbeats 1000000 in
theorem few_any (L : List Pr) (a : Option Addr) (cap : Nat) (w : World) (hS : PrsAt w a L) (hm : L.length < 9223372036854775808) : Calls Try.prog 8 #[.slice a L.length cap] w fun e w' => FewEnd L.length e ∧ w' = w := by
  obtain ⟨n, hN⟩ : ∃ n, L.length = n := ⟨_, rfl⟩
  rw [hN] at hm ⊢
  replace hN : Hid _ := hN
  replace hS : Hid (PrsAt w a L) := hS
  go_enter Try.func8, Try.ntmps8
  go_wp2
  go_loopw [3, 7] (fun s i wr => ∃ (k : Nat) (x : Int), k ≤ n ∧ i = .int .i64 k ∧ s = .int .i64 x ∧ wr = w) (fun _ i _ => n - (intOf i).toNat)
  case atStart => exact ⟨0, 0, by omega, rfl, rfl, rfl⟩
  case round =>
    obtain ⟨k, x, hk, rfl, rfl, rfl⟩ := hrel
    by_cases hlt : k < n
    · have hki : (k : Int) < n := by omega
      obtain ⟨b, off, rfl, hcs⟩ := hS.out.resolve_left (fun e => by have := hN.out; rw [e] at this; simp at this; omega)
      obtain ⟨e0, e1⟩ := hcs k (by rw [hN.out]; exact hlt)
      obtain ⟨T, hT⟩ : ∃ T, (L.getD k noPr).b = T := ⟨_, rfl⟩
      rw [hT] at e1
      replace hT : Hid _ := hT
      clear hcs e0
      go_wp2
      exact ⟨⟨k + 1, _, hlt, by simp, rfl, by trivial⟩, meas_up hlt⟩
    · have hki : ¬ (k : Int) < n := by omega
      obtain rfl : k = n := by omega
      by_cases h120 : (k : Int) ≤ 120
      · by_cases hx : x ≤ 12000
        · go_wp2
          go_ret
          exact ⟨⟨true, by trivial, fun _ => by omega⟩, by trivial⟩
        · go_wp2
          go_ret
          exact ⟨⟨false, by trivial, fun e => (by cases e)⟩, by trivial⟩
      · go_wp2
        go_ret
        exact ⟨⟨false, by trivial, fun e => (by cases e)⟩, by trivial⟩
end Go.Proofs.Ytbkkhafckkndfaa

namespace Go.Proofs.Ytbkkhafckkndfaa
open Go Go.RowKit

/-! ### A longer list of free pages -/
def Sp.ext (s : Sp) (G : List Int) : Sp := ⟨s.O, s.F ++ G⟩
theorem put_ext {H : List Pr} {s s' : Sp} {b : ByteArray} {n : Int} (G : List Int) (h : putS H s b = some (n, s')) : putS H (s.ext G) b = some (n, s'.ext G) := by
  unfold putS putW Sp.ext at *
  dsimp only
  cases e1 : findW H b with
  | some m => rw [e1] at h; simp only [Option.map_some, Option.some.injEq, Prod.mk.injEq] at h ⊢; obtain ⟨rfl, rfl⟩ := h; exact ⟨rfl, rfl⟩
  | none =>
    rw [e1] at h
    cases e2 : findW s.O b with
    | some m => rw [e2] at h; simp only [Option.map_some, Option.some.injEq, Prod.mk.injEq] at h ⊢; obtain ⟨rfl, rfl⟩ := h; exact ⟨rfl, rfl⟩
    | none =>
      rw [e2] at h
      cases e3 : s.F with
      | nil => rw [e3] at h; cases h
      | cons m F =>
        rw [e3] at h
        simp only [Option.map_some, Option.some.injEq, Prod.mk.injEq] at h
        obtain ⟨rfl, rfl⟩ := h
        rfl
theorem put_less {H : List Pr} {s s' : Sp} {b : ByteArray} {n : Int} (h : putS H s b = some (n, s')) : s'.F.length ≤ s.F.length ∧ s.O <+: s'.O := by
  unfold putS putW at h
  cases e1 : findW H b with
  | some m => rw [e1] at h; simp only [Option.map_some, Option.some.injEq, Prod.mk.injEq] at h; obtain ⟨_, rfl⟩ := h; exact ⟨Nat.le_refl _, List.prefix_refl _⟩
  | none =>
    rw [e1] at h
    cases e2 : findW s.O b with
    | some m => rw [e2] at h; simp only [Option.map_some, Option.some.injEq, Prod.mk.injEq] at h; obtain ⟨_, rfl⟩ := h; exact ⟨Nat.le_refl _, List.prefix_refl _⟩
    | none =>
      rw [e2] at h
      cases e3 : s.F with
      | nil => rw [e3] at h; cases h
      | cons m F =>
        rw [e3] at h
        simp only [Option.map_some, Option.some.injEq, Prod.mk.injEq] at h
        obtain ⟨_, rfl⟩ := h
        exact ⟨by simp, List.prefix_append _ _⟩
/-- Where the shorter list has failed, the longer one is at its own part. -/
theorem putS_out {H : List Pr} {s s' : Sp} {b : ByteArray} {n : Int} {G : List Int} (h : putS H s b = none) (h2 : putS H (s.ext G) b = some (n, s')) : s'.F.length < G.length := by
  unfold putS putW Sp.ext at *
  dsimp only at h2
  cases e1 : findW H b with
  | some m => rw [e1] at h; cases h
  | none =>
    rw [e1] at h h2
    cases e2 : findW s.O b with
    | some m => rw [e2] at h; cases h
    | none =>
      rw [e2] at h h2
      cases e3 : s.F with
      | cons m F => rw [e3] at h; cases h
      | nil =>
        rw [e3, List.nil_append] at h2
        cases G with
        | nil => cases h2
        | cons g G =>
          simp only [Option.map_some, Option.some.injEq, Prod.mk.injEq] at h2
          obtain ⟨_, rfl⟩ := h2
          simp
/-! The same of a record's pieces, of the records, of the leaves. -/
theorem goC_ext {H : List Pr} {b : ByteArray} (G : List Int) : ∀ (k : Nat) (next : Int) (s s' : Sp) (n : Int), goC H b k next s = some (n, s') → goC H b k next (s.ext G) = some (n, s'.ext G) := by
  intro k
  induction k with
  | zero => intro next s s' n h; simp only [goC, Option.some.injEq, Prod.mk.injEq] at h ⊢; obtain ⟨rfl, rfl⟩ := h; exact ⟨rfl, rfl⟩
  | succ k ih =>
    intro next s s' n h
    rw [goC] at h ⊢
    cases e : putS H s (chainV next (pieceL b k)) with
    | none => rw [e] at h; cases h
    | some x =>
      rw [e] at h
      obtain ⟨m, s2⟩ := x
      rw [put_ext G e]
      exact ih m s2 s' n h
theorem goC_less {H : List Pr} {b : ByteArray} : ∀ (k : Nat) (next : Int) (s s' : Sp) (n : Int), goC H b k next s = some (n, s') → s'.F.length ≤ s.F.length ∧ s.O <+: s'.O := by
  intro k
  induction k with
  | zero => intro next s s' n h; simp only [goC, Option.some.injEq, Prod.mk.injEq] at h; obtain ⟨_, rfl⟩ := h; exact ⟨Nat.le_refl _, List.prefix_refl _⟩
  | succ k ih =>
    intro next s s' n h
    rw [goC] at h
    cases e : putS H s (chainV next (pieceL b k)) with
    | none => rw [e] at h; cases h
    | some x =>
      rw [e] at h
      obtain ⟨m, s2⟩ := x
      have h1 := put_less e
      have h2 := ih m s2 s' n h
      exact ⟨Nat.le_trans h2.1 h1.1, h1.2.trans h2.2⟩
theorem goC_fail {H : List Pr} {b : ByteArray} {G : List Int} : ∀ (k : Nat) (next : Int) (s s' : Sp) (n : Int), goC H b k next s = none → goC H b k next (s.ext G) = some (n, s') → s'.F.length < G.length := by
  intro k
  induction k with
  | zero => intro next s s' n h; cases h
  | succ k ih =>
    intro next s s' n h h2
    rw [goC] at h h2
    cases e : putS H s (chainV next (pieceL b k)) with
    | none =>
      cases e2 : putS H (s.ext G) (chainV next (pieceL b k)) with
      | none => rw [e2] at h2; cases h2
      | some x =>
        rw [e2] at h2
        obtain ⟨m, s2⟩ := x
        have h3 := putS_out e e2
        have h4 := (goC_less k m s2 s' n h2).1
        omega
    | some x =>
      rw [e] at h
      obtain ⟨m, s2⟩ := x
      rw [put_ext G e] at h2
      exact ih m s2 s' n h h2
theorem stepR_ext {H : List Pr} {C C' : List Ce} {s s' : Sp} {x : Pr} (G : List Int) (h : stepR H (C, s) x = some (C', s')) : stepR H (C, s.ext G) x = some (C', s'.ext G) := by
  unfold stepR at h ⊢
  dsimp only at h ⊢
  by_cases hz : x.b.size ≤ 24
  · rw [if_pos hz] at h ⊢; simp only [Option.some.injEq, Prod.mk.injEq] at h ⊢; exact ⟨h.1, by rw [h.2]⟩
  · rw [if_neg hz] at h ⊢
    cases e : goC H x.b (npc x.b) 0 s with
    | none => rw [e] at h; cases h
    | some r =>
      rw [e] at h
      obtain ⟨m, s2⟩ := r
      rw [goC_ext G _ _ _ _ _ e]
      simp only [Option.map_some, Option.some.injEq, Prod.mk.injEq] at h ⊢
      exact ⟨h.1, by rw [h.2]⟩
theorem stepR_less {H : List Pr} {C C' : List Ce} {s s' : Sp} {x : Pr} (h : stepR H (C, s) x = some (C', s')) : s'.F.length ≤ s.F.length ∧ s.O <+: s'.O := by
  unfold stepR at h
  dsimp only at h
  by_cases hz : x.b.size ≤ 24
  · rw [if_pos hz] at h; simp only [Option.some.injEq, Prod.mk.injEq] at h; rw [h.2]; exact ⟨Nat.le_refl _, List.prefix_refl _⟩
  · rw [if_neg hz] at h
    cases e : goC H x.b (npc x.b) 0 s with
    | none => rw [e] at h; cases h
    | some r =>
      rw [e] at h
      obtain ⟨m, s2⟩ := r
      simp only [Option.map_some, Option.some.injEq, Prod.mk.injEq] at h
      rw [← h.2]
      exact goC_less _ _ _ _ _ e
theorem stepR_fail {H : List Pr} {C C' : List Ce} {s s' : Sp} {x : Pr} {G : List Int} (h : stepR H (C, s) x = none) (h2 : stepR H (C, s.ext G) x = some (C', s')) : s'.F.length < G.length := by
  unfold stepR at h h2
  dsimp only at h h2
  by_cases hz : x.b.size ≤ 24
  · rw [if_pos hz] at h; cases h
  · rw [if_neg hz] at h h2
    cases e : goC H x.b (npc x.b) 0 s with
    | some r => rw [e] at h; cases h
    | none =>
      cases e2 : goC H x.b (npc x.b) 0 (s.ext G) with
      | none => rw [e2] at h2; cases h2
      | some r =>
        rw [e2] at h2
        obtain ⟨m, s2⟩ := r
        simp only [Option.map_some, Option.some.injEq, Prod.mk.injEq] at h2
        rw [← h2.2]
        exact goC_fail _ _ _ _ _ e e2
theorem goR_less {H : List Pr} : ∀ (L : List Pr) (C C' : List Ce) (s s' : Sp), goR H L (C, s) = some (C', s') → s'.F.length ≤ s.F.length ∧ s.O <+: s'.O := by
  intro L
  induction L with
  | nil => intro C C' s s' h; simp only [goR, Option.some.injEq, Prod.mk.injEq] at h; rw [h.2]; exact ⟨Nat.le_refl _, List.prefix_refl _⟩
  | cons x L ih =>
    intro C C' s s' h
    rw [goR] at h
    cases e : stepR H (C, s) x with
    | none => rw [e] at h; cases h
    | some r =>
      rw [e, Option.bind_some] at h
      obtain ⟨C2, s2⟩ := r
      have h1 := stepR_less e
      have h2 := ih C2 C' s2 s' h
      exact ⟨Nat.le_trans h2.1 h1.1, h1.2.trans h2.2⟩
theorem goR_ext {H : List Pr} (G : List Int) : ∀ (L : List Pr) (C C' : List Ce) (s s' : Sp), goR H L (C, s) = some (C', s') → goR H L (C, s.ext G) = some (C', s'.ext G) := by
  intro L
  induction L with
  | nil => intro C C' s s' h; simp only [goR, Option.some.injEq, Prod.mk.injEq] at h ⊢; exact ⟨h.1, by rw [h.2]⟩
  | cons x L ih =>
    intro C C' s s' h
    rw [goR] at h ⊢
    cases e : stepR H (C, s) x with
    | none => rw [e] at h; cases h
    | some r =>
      rw [e, Option.bind_some] at h
      obtain ⟨C2, s2⟩ := r
      rw [stepR_ext G e, Option.bind_some]
      exact ih C2 C' s2 s' h
theorem goR_fail {H : List Pr} {G : List Int} : ∀ (L : List Pr) (C C' : List Ce) (s s' : Sp), goR H L (C, s) = none → goR H L (C, s.ext G) = some (C', s') → s'.F.length < G.length := by
  intro L
  induction L with
  | nil => intro C C' s s' h; cases h
  | cons x L ih =>
    intro C C' s s' h h2
    rw [goR] at h h2
    cases e : stepR H (C, s) x with
    | none =>
      cases e2 : stepR H (C, s.ext G) x with
      | none => rw [e2] at h2; cases h2
      | some r =>
        rw [e2, Option.bind_some] at h2
        obtain ⟨C2, s2⟩ := r
        have h3 := stepR_fail e e2
        have h4 := (goR_less L C2 C' s2 s' h2).1
        omega
    | some r =>
      rw [e, Option.bind_some] at h
      obtain ⟨C2, s2⟩ := r
      rw [stepR_ext G e, Option.bind_some] at h2
      exact ih C2 C' s2 s' h h2
theorem goP_less {H : List Pr} : ∀ (Gs : List (List Ce)) (S S' : List Sl) (s s' : Sp), goP H Gs (S, s) = some (S', s') → s'.F.length ≤ s.F.length ∧ s.O <+: s'.O := by
  intro Gs
  induction Gs with
  | nil => intro S S' s s' h; simp only [goP, Option.some.injEq, Prod.mk.injEq] at h; rw [h.2]; exact ⟨Nat.le_refl _, List.prefix_refl _⟩
  | cons x L ih =>
    intro S S' s s' h
    rw [goP] at h
    dsimp only at h
    cases e : putS H s (leafV x) with
    | none => rw [e] at h; cases h
    | some r =>
      rw [e] at h
      obtain ⟨n, s2⟩ := r
      have h1 := put_less e
      have h2 := ih _ S' s2 s' h
      exact ⟨Nat.le_trans h2.1 h1.1, h1.2.trans h2.2⟩
theorem goP_ext {H : List Pr} (G : List Int) : ∀ (Gs : List (List Ce)) (S S' : List Sl) (s s' : Sp), goP H Gs (S, s) = some (S', s') → goP H Gs (S, s.ext G) = some (S', s'.ext G) := by
  intro Gs
  induction Gs with
  | nil => intro S S' s s' h; simp only [goP, Option.some.injEq, Prod.mk.injEq] at h ⊢; exact ⟨h.1, by rw [h.2]⟩
  | cons x L ih =>
    intro S S' s s' h
    rw [goP] at h ⊢
    dsimp only at h ⊢
    cases e : putS H s (leafV x) with
    | none => rw [e] at h; cases h
    | some r =>
      rw [e] at h
      obtain ⟨n, s2⟩ := r
      rw [put_ext G e]
      exact ih _ S' s2 s' h
theorem goP_fail {H : List Pr} {G : List Int} : ∀ (Gs : List (List Ce)) (S S' : List Sl) (s s' : Sp), goP H Gs (S, s) = none → goP H Gs (S, s.ext G) = some (S', s') → s'.F.length < G.length := by
  intro Gs
  induction Gs with
  | nil => intro S S' s s' h; cases h
  | cons x L ih =>
    intro S S' s s' h h2
    rw [goP] at h h2
    dsimp only at h h2
    cases e : putS H s (leafV x) with
    | none =>
      cases e2 : putS H (s.ext G) (leafV x) with
      | none => rw [e2] at h2; cases h2
      | some r =>
        rw [e2] at h2
        obtain ⟨n, s2⟩ := r
        have h3 := putS_out e e2
        have h4 := (goP_less L _ S' s2 s' h2).1
        omega
    | some r =>
      rw [e] at h
      obtain ⟨n, s2⟩ := r
      rw [put_ext G e] at h2
      exact ih _ S' s2 s' h h2
/-- The whole: where a longer list of free pages does, a shorter one does just if as many are there as are taken. -/
theorem plan_ext {L H O : List Pr} {F G : List Int} {root : Int} (h : planR L H (F ++ G) = some (O, root)) : (planR L H F = none ∧ F.length < O.length) ∨ (planR L H F = some (O, root) ∧ O.length ≤ F.length) := by
  have key : ∀ C s S s2 n s3, goR H L ([], ⟨[], F ++ G⟩) = some (C, s) → goP H (partsL C) ([], s) = some (S, s2) → putS H s2 (idxV S) = some (n, s3) → O = s3.O ∧ root = n ∧ O.length + s3.F.length = F.length + G.length := fun C s S s2 n s3 e1 e2 e3 => by
    rw [planR_parts e1, e2, Option.bind_some, e3] at h
    simp only [Option.map_some, Option.some.injEq, Prod.mk.injEq] at h
    obtain ⟨rfl, rfl⟩ := h
    refine ⟨rfl, rfl, ?_⟩
    have h3 := putS_len e3
    have h2 : s2.len = s.len := by
      have : ∀ (Gs : List (List Ce)) (S0 S1 : List Sl) (a b : Sp), goP H Gs (S0, a) = some (S1, b) → b.len = a.len := by
        intro Gs
        induction Gs with
        | nil => intro S0 S1 a b e; simp only [goP, Option.some.injEq, Prod.mk.injEq] at e; rw [e.2]
        | cons x Gs ih =>
          intro S0 S1 a b e
          rw [goP] at e
          dsimp only at e
          cases e4 : putS H a (leafV x) with
          | none => rw [e4] at e; cases e
          | some r =>
            rw [e4] at e
            obtain ⟨m, a2⟩ := r
            rw [ih _ S1 a2 b e, putS_len e4]
      exact this _ _ _ _ _ e2
    have h1 : s.len = (⟨[], F ++ G⟩ : Sp).len := by
      have : ∀ (L : List Pr) (C0 C1 : List Ce) (a b : Sp), goR H L (C0, a) = some (C1, b) → b.len = a.len := by
        intro L
        induction L with
        | nil => intro C0 C1 a b e; simp only [goR, Option.some.injEq, Prod.mk.injEq] at e; rw [e.2]
        | cons x L ih =>
          intro C0 C1 a b e
          rw [goR] at e
          cases e4 : stepR H (C0, a) x with
          | none => rw [e4] at e; cases e
          | some r =>
            rw [e4, Option.bind_some] at e
            obtain ⟨C2, a2⟩ := r
            rw [ih C2 C1 a2 b e, stepR_len e4]
      exact this _ _ _ _ _ e1
    have h0 : (⟨[], F ++ G⟩ : Sp).len = F.length + G.length := by simp [Sp.len]
    unfold Sp.len at *
    omega
  cases e1 : goR H L ([], ⟨[], F ++ G⟩) with
  | none => rw [planR_none e1] at h; cases h
  | some r =>
    obtain ⟨C, s⟩ := r
    cases e2 : goP H (partsL C) ([], s) with
    | none => rw [planR_parts e1, e2] at h; cases h
    | some r =>
      obtain ⟨S, s2⟩ := r
      cases e3 : putS H s2 (idxV S) with
      | none => rw [planR_parts e1, e2, Option.bind_some, e3] at h; cases h
      | some r =>
        obtain ⟨n, s3⟩ := r
        obtain ⟨hO, hroot, hlen⟩ := key C s S s2 n s3 e1 e2 e3
        have l3 := (put_less e3).1
        have l2 := (goP_less _ _ _ _ _ e2).1
        cases f1 : goR H L ([], ⟨[], F⟩) with
        | none =>
          have := goR_fail (G := G) _ _ _ _ _ f1 e1
          exact .inl ⟨planR_none f1, by omega⟩
        | some r =>
          obtain ⟨C', t⟩ := r
          have h1 := goR_ext G _ _ _ _ _ f1
          have h1' : goR H L ([], ⟨[], F ++ G⟩) = some (C', t.ext G) := h1
          rw [e1] at h1'
          simp only [Option.some.injEq, Prod.mk.injEq] at h1'
          obtain ⟨rfl, rfl⟩ := h1'
          cases f2 : goP H (partsL C) ([], t) with
          | none =>
            have := goP_fail (G := G) _ _ _ _ _ f2 e2
            exact .inl ⟨by rw [planR_parts f1, f2]; rfl, by omega⟩
          | some r =>
            obtain ⟨S', t2⟩ := r
            have h2 := goP_ext G _ _ _ _ _ f2
            rw [e2] at h2
            simp only [Option.some.injEq, Prod.mk.injEq] at h2
            obtain ⟨rfl, rfl⟩ := h2
            cases f3 : putS H t2 (idxV S) with
            | none =>
              have := putS_out (G := G) f3 e3
              exact .inl ⟨by rw [planR_parts f1, f2, Option.bind_some, f3]; rfl, by omega⟩
            | some r =>
              obtain ⟨n', t3⟩ := r
              have h3 := put_ext G f3
              rw [e3] at h3
              simp only [Option.some.injEq, Prod.mk.injEq] at h3
              obtain ⟨rfl, rfl⟩ := h3
              refine .inr ⟨by rw [planR_parts f1, f2, Option.bind_some, f3, hO, hroot]; rfl, ?_⟩
              have : (t3.ext G).F.length = t3.F.length + G.length := by simp [Sp.ext]
              omega
end Go.Proofs.Ytbkkhafckkndfaa

namespace Go.Proofs.Ytbkkhafckkndfaa
open Go Go.RowKit

theorem put_enough {H : List Pr} {s : Sp} (b : ByteArray) (h : 0 < s.F.length) : ∃ n s', putS H s b = some (n, s') ∧ s.F.length ≤ s'.F.length + 1 := by
  unfold putS putW
  cases e1 : findW H b with
  | some m => exact ⟨m, _, rfl, by dsimp only; omega⟩
  | none =>
    cases e2 : findW s.O b with
    | some m => exact ⟨m, _, rfl, by dsimp only; omega⟩
    | none =>
      cases e3 : s.F with
      | nil => rw [e3] at h; simp at h
      | cons m F => exact ⟨m, _, rfl, by simp⟩
theorem goC_enough {H : List Pr} {b : ByteArray} : ∀ (k : Nat) (next : Int) (s : Sp), k ≤ s.F.length → ∃ n s', goC H b k next s = some (n, s') ∧ s.F.length ≤ s'.F.length + k := by
  intro k
  induction k with
  | zero => intro next s h; exact ⟨next, s, rfl, by omega⟩
  | succ k ih =>
    intro next s h
    obtain ⟨n, s2, h1, h2⟩ := put_enough (H := H) (s := s) (chainV next (pieceL b k)) (by omega)
    obtain ⟨n3, s3, h3, h4⟩ := ih n s2 (by omega)
    exact ⟨n3, s3, by rw [goC, h1]; exact h3, by omega⟩
/-- How many pieces a record has at most. -/
def costR (x : Pr) : Nat := if x.b.size ≤ 24 then 0 else npc x.b
theorem stepR_enough {H : List Pr} {C : List Ce} {s : Sp} {x : Pr} (h : costR x ≤ s.F.length) : ∃ C' s', stepR H (C, s) x = some (C', s') ∧ s.F.length ≤ s'.F.length + costR x := by
  unfold costR at *
  unfold stepR
  dsimp only
  by_cases hz : x.b.size ≤ 24
  · rw [if_pos hz, if_pos hz]
    exact ⟨_, _, rfl, by omega⟩
  · rw [if_neg hz] at *
    rw [if_neg hz]
    obtain ⟨n, s2, h1, h2⟩ := goC_enough (H := H) (b := x.b) (npc x.b) 0 s h
    rw [h1]
    exact ⟨_, _, rfl, h2⟩
def costs (L : List Pr) : Nat := (L.map costR).sum
theorem goR_enough {H : List Pr} : ∀ (L : List Pr) (C : List Ce) (s : Sp), costs L ≤ s.F.length → ∃ C' s', goR H L (C, s) = some (C', s') ∧ s.F.length ≤ s'.F.length + costs L := by
  intro L
  induction L with
  | nil => intro C s h; exact ⟨C, s, rfl, by simp [costs]⟩
  | cons x L ih =>
    intro C s h
    have e : costs (x :: L) = costR x + costs L := by simp [costs]
    obtain ⟨C2, s2, h1, h2⟩ := stepR_enough (H := H) (C := C) (s := s) (x := x) (by omega)
    obtain ⟨C3, s3, h3, h4⟩ := ih C2 s2 (by omega)
    exact ⟨C3, s3, by rw [goR, h1]; exact h3, by omega⟩
theorem goP_enough {H : List Pr} : ∀ (Gs : List (List Ce)) (S : List Sl) (s : Sp), Gs.length ≤ s.F.length → ∃ S' s', goP H Gs (S, s) = some (S', s') ∧ s.F.length ≤ s'.F.length + Gs.length := by
  intro Gs
  induction Gs with
  | nil => intro S s h; exact ⟨S, s, rfl, by omega⟩
  | cons x Gs ih =>
    intro S s h
    simp only [List.length_cons] at h ⊢
    obtain ⟨n, s2, h1, h2⟩ := put_enough (H := H) (s := s) (leafV x) (by omega)
    obtain ⟨S3, s3, h3, h4⟩ := ih (S ++ [⟨(x.getD 0 noCe).key, n⟩]) s2 (by omega)
    exact ⟨S3, s3, by rw [goP]; dsimp only; rw [h1]; exact h3, by omega⟩
theorem stepR_ce {H : List Pr} {C C' : List Ce} {s s' : Sp} {x : Pr} (h : stepR H (C, s) x = some (C', s')) (hp : PgsIn H s) : (∃ q, pageB q = true ∧ C' = C ++ [ceOf x q]) ∧ PgsIn H s' := by
  unfold stepR at h
  dsimp only at h
  by_cases hz : x.b.size ≤ 24
  · rw [if_pos hz] at h
    simp only [Option.some.injEq, Prod.mk.injEq] at h
    obtain ⟨rfl, rfl⟩ := h
    exact ⟨⟨2, by decide, by unfold ceOf; rw [if_pos hz]⟩, hp⟩
  · rw [if_neg hz] at h
    cases e1 : goC H x.b (npc x.b) 0 s with
    | none => rw [e1] at h; cases h
    | some y =>
      rw [e1] at h
      obtain ⟨n, s2⟩ := y
      simp only [Option.map_some, Option.some.injEq, Prod.mk.injEq] at h
      obtain ⟨rfl, rfl⟩ := h
      obtain ⟨q1, q2⟩ := pgs_goC _ _ _ _ _ hp e1
      exact ⟨⟨n, q1, by unfold ceOf; rw [if_neg hz]⟩, q2⟩
theorem goR_cells {H : List Pr} : ∀ (L : List Pr) (C : List Ce) (s s' : Sp) (C' : List Ce), goR H L (C, s) = some (C', s') → PgsIn H s → (∃ D, C' = C ++ D ∧ CellsOf L D) ∧ PgsIn H s' := by
  intro L
  induction L with
  | nil =>
    intro C s s' C' h hp
    simp only [goR, Option.some.injEq, Prod.mk.injEq] at h
    obtain ⟨rfl, rfl⟩ := h
    exact ⟨⟨[], by simp, rfl, fun i hi => absurd hi (by simp)⟩, hp⟩
  | cons x L ih =>
    intro C s s' C' h hp
    rw [goR] at h
    cases e : stepR H (C, s) x with
    | none => rw [e] at h; cases h
    | some r =>
      rw [e, Option.bind_some] at h
      obtain ⟨C2, s2⟩ := r
      obtain ⟨⟨q, hq, e1⟩, hp2⟩ := stepR_ce e hp
      obtain ⟨⟨D, e2, h1, h2⟩, hp3⟩ := ih C2 s2 s' C' h hp2
      refine ⟨⟨ceOf x q :: D, by rw [e2, e1]; simp, by simp [h1], fun i hi => ?_⟩, hp3⟩
      cases i with
      | zero => exact ⟨q, hq, rfl⟩
      | succ i => exact h2 i (by simpa using hi)
theorem plan_enough {L H : List Pr} {F : List Int} (hr : recsOk L = true) (hp : PgsIn H ⟨[], F⟩) (h : costs L + (lvs L).1 + 1 ≤ F.length) : ∃ O root, planR L H F = some (O, root) := by
  obtain ⟨C, s, h1, h2⟩ := goR_enough (H := H) L [] ⟨[], F⟩ (by dsimp only; omega)
  dsimp only at h2
  obtain ⟨⟨D, e, hD⟩, _⟩ := goR_cells L [] ⟨[], F⟩ s C h1 hp
  rw [List.nil_append] at e
  subst e
  have hc : (partsL C).length = (lvs L).1 := count_is hr hD
  obtain ⟨S, s2, h3, h4⟩ := goP_enough (H := H) (partsL C) [] s (by omega)
  obtain ⟨n, s3, h5, h6⟩ := put_enough (H := H) (s := s2) (idxV S) (by omega)
  exact ⟨s3.O, n, by rw [planR_parts h1, h3, Option.bind_some, h5]; rfl⟩
theorem put_some {s s' : Sp} {b : ByteArray} {n : Int} (h : putS [] s b = some (n, s')) : 0 < s'.O.length := by
  unfold putS putW at h
  have e1 : findW [] b = none := rfl
  rw [e1] at h
  cases e2 : findW s.O b with
  | some m =>
    rw [e2] at h
    simp only [Option.map_some, Option.some.injEq, Prod.mk.injEq] at h
    obtain ⟨_, rfl⟩ := h
    obtain ⟨x, hx, _⟩ := find_mem e2
    exact List.length_pos_of_mem hx
  | none =>
    rw [e2] at h
    cases e3 : s.F with
    | nil => rw [e3] at h; cases h
    | cons m F =>
      rw [e3] at h
      simp only [Option.map_some, Option.some.injEq, Prod.mk.injEq] at h
      obtain ⟨_, rfl⟩ := h
      simp
theorem plan_pos {L O : List Pr} {F : List Int} {root : Int} (h : planR L [] F = some (O, root)) : 0 < O.length := by
  cases e1 : goR [] L ([], ⟨[], F⟩) with
  | none => rw [planR_none e1] at h; cases h
  | some r =>
    obtain ⟨C, s⟩ := r
    rw [planR_parts e1] at h
    cases e2 : goP [] (partsL C) ([], s) with
    | none => rw [e2] at h; cases h
    | some r =>
      obtain ⟨S, s2⟩ := r
      rw [e2, Option.bind_some] at h
      cases e3 : putS [] s2 (idxV S) with
      | none => rw [e3] at h; cases h
      | some r =>
        obtain ⟨n, s3⟩ := r
        rw [e3] at h
        simp only [Option.map_some, Option.some.injEq, Prod.mk.injEq] at h
        rw [← h.1]
        exact put_some e3
theorem need_pos {L : List Pr} (hr : recsOk L = true) (h : costs L + (lvs L).1 + 1 ≤ 198) (hl : ¬ 21 < (lvs L).1) : 0 < needN L := by
  obtain ⟨O, root, e⟩ := plan_enough (H := []) (F := numsT 198) hr (pgs_in pgs_all) (by rw [numsT_len]; exact h)
  unfold needN
  rw [if_pos ⟨hr, hl⟩, e]
  exact plan_pos e
theorem need_zero {L : List Pr} (hr : recsOk L = false) : needN L = 0 := by
  unfold needN
  rw [if_neg (fun e => by rw [hr] at e; cases e.1)]
theorem need_none : needN [] = 1 := by decide +kernel
theorem recs_none : recsOk [] = true := by decide +kernel
/-- Two records, as ShelfRights has them. -/
def two (a b : Int) (Z : ByteArray) : List Pr := [⟨a, Z⟩, ⟨b, ByteArray.empty⟩]
theorem two_ok (a b : Int) (Z : ByteArray) : recsOk (two a b Z) = ((keyB a && keyB b) && decide (a < b) && decide (Z.size ≤ 900)) := by
  unfold recsOk two
  have e : (List.range 2) = [0, 1] := rfl
  simp only [List.length_cons, List.length_nil, e, List.all_cons, List.all_nil, Bool.and_true, reOk_zero]
  rw [show (1 : Nat) = 0 + 1 from rfl, reOk_succ]
  simp only [List.getD_cons_zero, List.getD_cons_succ]
  have : (ByteArray.empty).size = 0 := rfl
  simp only [this, Nat.zero_le, decide_true, Bool.and_true]
  cases keyB a <;> cases keyB b <;> simp [Bool.and_comm]
theorem two_need (a b : Int) (Z : ByteArray) : (0 < needN (two a b Z)) = (recsOk (two a b Z) = true) := by
  apply propext
  constructor
  · intro h
    cases e : recsOk (two a b Z) with
    | true => rfl
    | false => rw [need_zero e] at h; omega
  · intro h
    have hl := (lvs_in (two a b Z) 2 (by simp [two])).1
    have ht : (two a b Z).take 2 = two a b Z := rfl
    rw [ht] at hl
    refine need_pos h ?_ (by omega)
    have hz : Z.size ≤ 900 := by
      rw [two_ok] at h
      simp only [Bool.and_eq_true, decide_eq_true_eq] at h
      exact h.2
    have : costs (two a b Z) ≤ 8 := by
      have e0 : costR ⟨b, ByteArray.empty⟩ = 0 := rfl
      have e1 : costR ⟨a, Z⟩ ≤ 8 := by
        unfold costR npc
        dsimp only
        split <;> omega
      simp only [costs, two, List.map_cons, List.map_nil, List.sum_cons, List.sum_nil, e0]
      omega
    omega
end Go.Proofs.Ytbkkhafckkndfaa
