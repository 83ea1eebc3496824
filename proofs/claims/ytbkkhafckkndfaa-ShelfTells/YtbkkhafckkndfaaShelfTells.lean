/-
  Proved: maquettelaw16.ShelfTells returns true for every records, writes and ints, and leaves what it was given as it was; no condition.
-/
import Derived.Test.YtbkkhafckkndfaaRows
import Derived.Test.YtbkkhafckkndfaaPk09
import Derived.Test.YtbkkhafckkndfaaPxETells
import Derived.WalkKit
import Derived.Deep.QuietTactic
import Derived.BigQuiet
import Derived.WalkSpells
import Derived.Deep.CutRange
import Derived.Deep.CutBlock
import Derived.WalkLawsBesides
import Derived.ProofKit
import Derived.OpenShut
import Derived.ChangeOld
import Derived.Below
namespace Go.Proofs.Ytbkkhafckkndfaa.shelfTells
open Go.ChangeShapes Go.WideShapes Go.ChangeAt Go.RowKit
set_option linter.unusedVariables false

theorem own : ownKnob Try.prog.godebug = none := by kernel_rfl
theorem laidOut : laidOutB Try.prog = true := by kernel_rfl

theorem row_zero {w : World} {B n k : Nat} {E : TypeId} {v : Value} {xs : List Value} (h : w.ownsRow B E k v (0 + n) ([] ++ xs)) : w.ownsRow B E k v n xs := by
  rw [Nat.zero_add, List.nil_append] at h
  exact h
theorem fk_below {w W : World} (j : Nat) (h : Below w.heap.size w W) : Below w.heap.size w (W.drewN j) := h.trans ⟨rfl, rfl, rfl, Nat.le_refl _, fun _ _ => rfl⟩

set_option maxRecDepth 100000 in
set_option maxHeartbeats 16000000 in
theorem walk (a0 : Option Addr) (cap0 : Nat) (L0 : List Pr) (a1 : Option Addr) (cap1 : Nat) (L1 : List Pr) (a2 : Option Addr) (cap2 : Nat) (L2 : List Int) (w : World) (b0 : Prss w a0 L0) (b1 : Prss w a1 L1) (b2 : Numss w a2 cap2 L2):
    Calls Try.prog 3 #[.slice a0 L0.length cap0, .slice a1 L1.length cap1, .slice a2 L2.length cap2] w fun e w' => e = .returned (.bool true) ∧ Below w.heap.size w w' := by
  have hal : Hid (∀ W, Calls Try.prog 9 #[] W fun e w' => e = .returned (.bool true) ∧ Below W.heap.size W w') := alive16
  have hlm : L0.length < 9223372036854775808 := by have := b0.2.1; unfold maxLen at this; omega
  have HB0 : Hid (PrsAt w a0 L0) := b0.2.2
  have HB1 : Hid (PrsAt w a1 L1) := b1.2.2
  have HB2 : Hid (NumsAt w a2 L2) := b2.2.2.2
  have hcap2 : L2.length ≤ cap2 := b2.2.1
  clear b0 b1 b2
  obtain ⟨ip, zp, i1, i2, i3, i4, i5⟩ := info_kint
  obtain ⟨iw, zw, j1, j2, j3, j4, j5⟩ := info_kwrit
  obtain ⟨n0, hn0⟩ : ∃ n, L0.length = n := ⟨_, rfl⟩
  obtain ⟨n1, hn1⟩ : ∃ n, L1.length = n := ⟨_, rfl⟩
  obtain ⟨n2, hn2⟩ : ∃ n, L2.length = n := ⟨_, rfl⟩
  obtain ⟨nv, hnv⟩ : ∃ n : Nat, 198 = n := ⟨_, rfl⟩
  have hFew : Hid (∀ W, Below w.heap.size w W → Calls Try.prog 8 #[.slice a0 n0 cap0] W fun e w' => FewEnd n0 e ∧ W = w') := fun W g => by
    rw [← hn0]
    exact (few_any L0 a0 cap0 W (HB0.out.below g) hlm).mono fun e w' h => ⟨h.1, h.2.symm⟩
  have hR : Hid (n0 ≤ 120 → ∀ W, Below w.heap.size w W → Calls Try.prog 16 #[.slice a0 n0 cap0] W fun e w' => e = .returned (.bool (recsOk L0)) ∧ Grew W w') := fun hr W g => by
    subst hn0
    exact kright_any L0 a0 cap0 W (HB0.out.below g) (by omega)
  have hN : Hid (n0 ≤ 120 → ∀ W, Below w.heap.size w W → Calls Try.prog 15 #[.slice a0 n0 cap0] W fun e w' => e = .returned (.int .i64 (needN L0)) ∧ Below W.heap.size W w') := fun hr W g => by
    subst hn0
    exact kneed_any L0 a0 cap0 W (HB0.out.below g) (by omega)
  have hC : Hid (n0 ≤ 120 → ∀ W, Below w.heap.size w W → Calls Try.prog 12 #[.slice a0 n0 cap0] W fun e w' => ∃ a c, e = .returned (.slice a n0 c) ∧ PrsAt w' a L0 ∧ Below W.heap.size W w') := fun hr W g => by
    subst hn0
    refine (conv_rec L0 a0 cap0 W (HB0.out.below g) (by omega)).mono fun e w' ⟨v, q1, q2, q3⟩ => ?_
    obtain ⟨a', c', rfl, q4⟩ := prs_of q2
    exact ⟨a', c', q1, q4, q3⟩
  have hW : Hid (n1 ≤ 60 → ∀ W, Below w.heap.size w W → Calls Try.prog 13 #[.slice a1 n1 cap1] W fun e w' => ∃ a c, e = .returned (.slice a n1 c) ∧ PrsAt w' a L1 ∧ Below W.heap.size W w') := fun hr W g => by
    subst hn1
    refine (conv_wri L1 a1 cap1 W (HB1.out.below g) (by omega)).mono fun e w' ⟨v, q1, q2, q3⟩ => ?_
    obtain ⟨a', c', rfl, q4⟩ := prs_of q2
    exact ⟨a', c', q1, q4, q3⟩
  have hQ : Hid (n0 ≤ 120 → ∀ W a c, PrsAt W a L0 → Calls Try.prog 17 #[.slice a n0 c] W fun e w' => e = .returned (.bool (recsOk L0)) ∧ Grew W w') := fun hr W a c h => by
    subst hn0
    exact refrecs_any L0 a c W h (by omega)
  obtain ⟨O, root, err, hO⟩ := plan_some L0 L1 L2
  have hm9 := plan_short hO
  obtain ⟨m, hm⟩ : ∃ m, O.length = m := ⟨_, rfl⟩
  rw [hm, hn2] at hm9
  have hP : Hid (n0 ≤ 120 → n1 ≤ 60 → n2 ≤ 250 → ∀ W a c b d, Below w.heap.size w W → PrsAt W a L1 → NumsAt W b L2 → n2 ≤ d → Calls Try.prog 10 #[.slice a0 n0 cap0, .slice a n1 c, .slice b n2 d] W fun e w' => ∃ a' c', e = .returned (.tuple #[.slice a' m c', .int .i64 root, .int .i64 err]) ∧ PrsAt w' a' O ∧ Below W.heap.size W w') := fun h0 h1 h2 W a c b d g ha hb hd => by
    subst hn0 hn1 hn2 hm
    refine (kplan_any L0 L1 L2 a0 a b cap0 c d W (HB0.out.below g) ha hb hd (by omega) (by omega) (by omega)).mono fun e w' he => ?_
    obtain ⟨O', root', err', v, q1, rfl, q3, q4⟩ := he
    obtain ⟨rfl, rfl, rfl⟩ := plan_one hO q1
    obtain ⟨a', c', rfl, q5⟩ := prs_of q3
    exact ⟨a', c', rfl, q5, q4⟩
  have hD : Hid (n0 ≤ 120 → n1 ≤ 60 → n2 ≤ 250 → ∀ W a c b d, Below w.heap.size w W → PrsAt W a L0 → PrsAt W b L1 → Calls Try.prog 11 #[.slice a n0 c, .slice b n1 d, .slice a2 n2 cap2] W fun e w' => ∃ a' c', e = .returned (.tuple #[.slice a' m c', .int .i64 root, .int .i64 err]) ∧ PrsAt w' a' O ∧ Below W.heap.size W w') := fun h0 h1 h2 W a c b d g ha hb => by
    subst hn0 hn1 hn2 hm
    refine (refplan_any L0 L1 L2 a b a2 c d cap2 W ha hb (HB2.out.below g) hcap2 (by omega) (by omega) (by omega)).mono fun e w' he => ?_
    obtain ⟨O', root', err', v, q1, rfl, q3, q4⟩ := he
    obtain ⟨rfl, rfl, rfl⟩ := plan_one hO q1
    obtain ⟨a', c', rfl, q5⟩ := prs_of q3
    exact ⟨a', c', rfl, q5, q4⟩
  have hE : Hid (n0 ≤ 120 → ∀ W a c v B, PrsAt W a L0 → W.ownsRow B 3 1 v nv (numsV (numsT nv)) → Calls Try.prog 11 #[.slice a n0 c, .slice none 0 0, v] W fun e w' => ∃ a' c' root' err', e = .returned (.tuple #[.slice a' (needN L0) c', .int .i64 root', .int .i64 err']) ∧ Below W.heap.size W w') := fun h0 W a c v B ha hv => by
    subst hn0 hnv
    obtain ⟨b, d, rfl, hb, hd⟩ := nums_of hv
    have := refplan_any L0 [] (numsT 198) a none b c 0 d W ha (.inl rfl) hb (by rw [numsT_len]; exact hd) (by omega) (by simp) (by rw [numsT_len]; omega)
    rw [numsT_len] at this
    refine this.mono fun e w' he => ?_
    obtain ⟨O', root', err', v, q1, rfl, q3, q4⟩ := he
    rw [need_is q1] at q3
    obtain ⟨a', c', rfl, _⟩ := own_reads q3
    exact ⟨a', c', root', err', rfl, q4⟩
  have hS : Hid (n2 ≤ 250 → ∀ W a c b d, PrsAt W a O → PrsAt W b O → Calls Try.prog 14 #[.slice a m c, .slice b m d] W fun e w' => e = .returned (.bool true) ∧ Below W.heap.size W w') := fun h2 W a c b d ha hb => by
    subst hm
    refine (same_wri O O a b c d W ha hb (by omega) (by omega)).mono fun e w' he => ⟨?_, he.2⟩
    obtain ⟨r, rfl, hr⟩ := he.1
    rw [hr.2 rfl]
  have hRf : Hid (∀ W, Below w.heap.size w W → Reads W a2 (numsV L2)) := fun W g => (nums_reads HB2.out).below g
  have hRh : Hid (∀ W, Below w.heap.size w W → Reads W a1 (prsV L1)) := fun W g => (prs_reads HB1.out).below g
  have hlf : (numsV L2).length = n2 * 1 := by simp [numsV, hn2]
  have hlh : (prsV L1).length = n1 * 2 := by rw [prs_len, hn1]
  have hof : Hid (∀ u ∈ numsV L2, u.oneCell' = true) := one_nums
  have hoh : Hid (∀ u ∈ prsV L1, u.oneCell' = true) := one_prs
  have hSm : Hid (∀ W, NumsAt W a2 L2 → NumsAt W a2 L2) := fun _ h => h
  rw [hn0, hn1, hn2]
  rw [hn2] at hcap2
  replace hn0 : Hid (L0.length = n0) := hn0
  replace hn1 : Hid (L1.length = n1) := hn1
  replace hn2 : Hid (L2.length = n2) := hn2
  replace hm : Hid (O.length = m) := hm
  replace hO : Hid (PlanIs L0 L1 L2 O root err) := hO
  generalize needN L0 = N at *
  generalize recsOk L0 = rr at *
  clear hlm hO hSm
  replace hm9 : Hid (m ≤ n2) := hm9
  replace hcap2 : Hid (n2 ≤ cap2) := hcap2
  go_enter Try.func3, Try.ntmps3
  go_wp2_with (first
    | (go_at_call 8; go_fit (hFew.out _ (Below.refl _ _)); rintro e w1 ⟨⟨r, rfl, hr⟩, rfl⟩)
    | (go_at_call 9; go_fit (hal.out _); rintro e w2 ⟨rfl, hA1⟩)
    | fail)
  all_goals first | (go_ret; exact ⟨rfl, hA1⟩) | skip
  replace hr := hr (by assumption)
  have hr1 : n1 ≤ 60 := by omega
  have hr2 : n2 ≤ 250 := by omega
  replace hR : Hid _ := hR.out hr
  replace hN : Hid _ := hN.out hr
  replace hC : Hid _ := hC.out hr
  replace hW : Hid _ := hW.out hr1
  replace hQ : Hid _ := hQ.out hr
  replace hP : Hid _ := hP.out hr hr1 hr2
  replace hD : Hid _ := hD.out hr hr1 hr2
  replace hE : Hid _ := hE.out hr
  replace hS : Hid _ := hS.out hr2
  clear hFew
  go_loopw [44] (fun i wr => ∃ k : Nat, k ≤ n1 ∧ i = .int .i64 (k : Int) ∧ Below w.heap.size w wr) (fun i _ => n1 - (intOf i).toNat)
  case atStart => exact ⟨0, by omega, rfl, hA1⟩
  case round =>
    clear hA1
    obtain ⟨k, hk, rfl, hB⟩ := hrel
    replace hB : Hid (Below w.heap.size w wr) := hB
    by_cases hlt : k < n1
    · have hki : (k : Int) < n1 := by omega
      obtain ⟨b, off, rfl, hcs⟩ := (HB1.out.below hB.out).resolve_left (fun e => by have := hn1.out; rw [e] at this; simp at this; omega)
      obtain ⟨c0, c1⟩ := hcs k (by rw [hn1.out]; exact hlt)
      generalize L1.getD k noPr = x at *
      obtain ⟨K, T⟩ := x
      dsimp only at c0 c1
      clear hcs hR hN hC hW hQ hP hD hE hS hRf hRh
      by_cases hT : 300 < T.size
      · have hTi : (300 : Int) < T.size := by omega
        go_wp2
        go_ret
        exact ⟨rfl, hB.out.trans (((Grew.refl wr).alloc _ _).below.mono hB.out.size)⟩
      · have hTi : ¬ (300 : Int) < T.size := by omega
        go_wp2
        exact ⟨⟨k + 1, by omega, by simp, hB.out.trans (((Grew.refl wr).alloc _ _).below.mono hB.out.size)⟩, meas_up hlt⟩
    · have hki : ¬ (k : Int) < n1 := by omega
      obtain rfl : k = n1 := by omega
      clear hk hlt
      go_wp2_with (first
        | (at_builtin; refine wpList_app _ rfl (.const (.slice none 0 0)) (.tmp 53) 24 rfl w.heap.size 3 ip zp 1 8 Try.underlying24 i1 i2 i4 i5 i3 (by decide) _ 0 [] rfl (World.ownsRow_nil _ _ _ _) a2 n2 cap2 (numsV L2) rfl hlf (hRf.out _ hB.out) hof.out (by unfold maxLen; omega) (by omega) hB.out.size ?_; intro v3 w3 hv3 hg3 hk3 hl3; obtain ⟨af, cf, rfl, hnf, hcf⟩ := nums_of (row_zero hv3); have B3 := hB.out.trans ((grown_but hg3).below (fun i e => by cases e) hB.out.size); clear hv3 hg3 hk3 hl3)
        | (at_builtin; refine wpList_app _ rfl (.const (.slice none 0 0)) (.tmp 55) 23 rfl w.heap.size 28 iw zw 2 24 Try.underlying23 j1 j2 j4 j5 j3 (by decide) _ 0 [] rfl (World.ownsRow_nil _ _ _ _) a1 k cap1 (prsV L1) rfl hlh (hRh.out _ B3) hoh.out (by unfold maxLen; omega) (by omega) B3.size ?_; intro v4 w4 hv4 hg4 hk4 hl4; obtain ⟨ah, ch, rfl, hph⟩ := prs_of (row_zero hv4); have g4 : Below w3.heap.size w3 w4 := (grown_but hg4).below (fun i e => by cases e) (Nat.le_refl _); have B4 := B3.trans (g4.mono B3.size); clear hv4 hg4 hk4 hl4)
        | (go_at_call 10; go_fit (hP.out _ _ _ _ _ B4 hph (hnf.below g4) hcf); rintro e w5 ⟨ap, cp, rfl, hpp, g5⟩; have B5 := B4.trans (g5.mono B4.size))
        | (go_at_call 12; go_fit (hC.out _ B5); rintro e w6 ⟨aR, cR, rfl, hpR, g6⟩; have B6 := B5.trans (g6.mono B5.size))
        | (go_at_call 13; go_fit (hW.out _ B6); rintro e w7 ⟨aW, cW, rfl, hpW, g7⟩; have B7 := B6.trans (g7.mono B6.size))
        | (go_at_call 11; go_fit (hD.out _ _ _ _ _ B7 (hpR.below g7) hpW); rintro e w8 ⟨ar, cr, rfl, hpr, g8⟩; have F8 : Hid (Ft w w8 af ah ap ar L2 L1 O) := ⟨B7.trans (g8.mono B7.size), ((((hnf.below g4).below g5).below g6).below g7).below g8, (((hph.below g5).below g6).below g7).below g8, ((hpp.below g6).below g7).below g8, hpr⟩)
        | fail)
      clear hnf hph hpp hpR hpW hpr g4 g5 g6 g7 g8 B3 B4 B5 B6 B7 hB hP hD hRf hRh hlf hlh
      go_loopw [17, 18] (fun l i wr => ∃ (x : Nat), x ≤ nv ∧ i = .int .i64 ((x : Int) + 2) ∧ wr.ownsRow w8.heap.size 3 1 l x (numsV (numsT x)) ∧ Below w8.heap.size w8 wr) (fun _ i _ => nv + 2 - (intOf i).toNat)
      case atStart => exact ⟨0, by omega, rfl, World.ownsRow_nil _ _ _ _, Below.refl _ _⟩
      case round =>
        obtain ⟨x, hx, rfl, hown, hB⟩ := hrel
        replace hB : Hid (Below w8.heap.size w8 wr) := hB
        replace hown : Hid (World.ownsRow wr _ _ _ _ _ _) := hown
        by_cases hlt : x < nv
        · have hki2 : (x : Int) + 2 < 200 := by omega
          have hn2 : nv = 198 := hnv.symm
          clear hnv hN hR hC hW hQ hE hS
          go_wp2_with (first
            | (at_builtin; refine wpList_app _ rfl (.tmp 79) (.tmp 81) 24 rfl w8.heap.size 3 ip zp 1 8 Try.underlying24 i1 i2 i4 i5 i3 (by decide) _ x _ rfl (hown.out.alloc _) (some ⟨wr.heap.size, 0, none⟩) 1 1 [.int .i64 ((x : Int) + 2)] rfl rfl (.inr ⟨_, 0, rfl, fun j u hj => new_at _ _ _ _ (by simp) j u hj⟩) (fun u hu => by simp at hu; rcases hu with rfl; rfl) (by unfold maxLen; omega) (by omega) (by have := hB.out.size; simp at *; omega) ?_; intro v5 w5 hv5 hg5 hk5 hl5)
            | fail)
          have r1 := hown.out.alloc (.cells #[.int .i64 ((x : Int) + 2)] 3)
          have B2 := hB.out.trans ((((Grew.refl wr).alloc (#[.int .i64 ((x : Int) + 2)] : Array Value) 3).below).mono hB.out.size)
          have B3 := B2.trans ((grown_but hg5).below (fun i e => (r1.lt i e).1) B2.size)
          exact ⟨⟨x + 1, hlt, by simp; omega, by rw [numsT_up, numsV_up]; exact hv5, B3⟩, by simp [intOf]; omega⟩
        · have hki2 : ¬ (x : Int) + 2 < 200 := by omega
          obtain rfl : x = nv := by omega
          have F9 := F8.out.below hB.out
          replace F9 : Hid (Ft w wr af ah ap ar L2 L1 O) := F9
          clear hx hlt
          go_wp2_with (first
            | (go_at_call 12; go_fit (hC.out _ F9.out.b); rintro e w10 ⟨aR, cR, rfl, hpR, g10⟩)
            | (go_at_call 11; go_fit (hE.out _ _ _ _ _ hpR (row_below hown.out g10)); rintro e w11 ⟨a11, c11, root11, err11, rfl, g11⟩; have F11 : Hid (Ft w w11 af ah ap ar L2 L1 O) := (F9.out.below g10).below g11)
            | fail)
          clear hpR g10 g11 F9 F8 hown hB hE
          go_loopw [93] (fun i wr => ∃ y j : Nat, y ≤ n2 ∧ i = .int .i64 (y : Int) ∧ wr = w11.drewN j) (fun i _ => n2 - (intOf i).toNat)
          case atStart => exact ⟨0, 0, by omega, rfl, rfl⟩
          case round =>
            obtain ⟨y, j, hy, rfl, HW⟩ := hrel
            have F12 : Hid (Ft w wr af ah ap ar L2 L1 O) := by rw [HW]; exact F11.out.drewN j
            replace HW : Hid (wr = w11.drewN j) := HW
            by_cases hlt : y < n2
            · have hki2 : (y : Int) < n2 := by omega
              obtain ⟨bf, of, rfl, hcf2⟩ := F12.out.f.resolve_left (fun e => by have := hn2.out; rw [e] at this; simp at this; omega)
              obtain ⟨bg, og, rfl, hcg2⟩ := (HB2.out.below F12.out.b).resolve_left (fun e => by have := hn2.out; rw [e] at this; simp at this; omega)
              have e1 := hcf2 y (by rw [hn2.out]; exact hlt)
              have e2 := hcg2 y (by rw [hn2.out]; exact hlt)
              generalize L2.getD y 0 = X at *
              have hyc : y < cf := by omega
              have hyc2 : y < cap2 := by have := hcap2.out; omega
              clear hcf2 hcg2 hN hR hC hW hQ hS F12 F11
              go_upto_region 22 with (fail)
              go_quiet (fail)
              go_wp2_with (fail)
              exact ⟨⟨y + 1, _, hlt, by simp, by rw [HW.out, World.drewN_drewN]⟩, meas_up hlt⟩
            · have hki2 : ¬ (y : Int) < n2 := by omega
              obtain rfl : y = n2 := by omega
              clear F11 HW hy hlt
              obtain ⟨w12, rfl⟩ : ∃ W, W = wr := ⟨_, rfl⟩
              go_wp2_with (fail)
              go_loopw [108] (fun i wv => ∃ z j : Nat, z ≤ k ∧ i = .int .i64 (z : Int) ∧ wv = w12.drewN j) (fun i _ => k - (intOf i).toNat)
              case atStart => exact ⟨0, 0, by omega, rfl, rfl⟩
              case round =>
                obtain ⟨z, jj, hz, rfl, HW⟩ := hrel
                have F13 : Hid (Ft w wr af ah ap ar L2 L1 O) := by rw [HW]; exact F12.out.drewN jj
                replace HW : Hid (wr = w12.drewN jj) := HW
                clear F12
                by_cases hlt : z < k
                · have hki2 : (z : Int) < k := by omega
                  obtain ⟨bf, of, rfl, hcf2⟩ := F13.out.h.resolve_left (fun e => by have := hn1.out; rw [e] at this; simp at this; omega)
                  obtain ⟨bg, og, rfl, hcg2⟩ := (HB1.out.below F13.out.b).resolve_left (fun e => by have := hn1.out; rw [e] at this; simp at this; omega)
                  obtain ⟨c0, c1⟩ := hcf2 z (by rw [hn1.out]; exact hlt)
                  obtain ⟨d0, d1⟩ := hcg2 z (by rw [hn1.out]; exact hlt)
                  generalize L1.getD z noPr = X at *
                  obtain ⟨K, T⟩ := X
                  dsimp only at c0 c1 d0 d1
                  have he := eq_kwri K T
                  clear hcf2 hcg2 hN hR hC hW hQ hS F13
                  go_upto_region 28 with (fail)
                  go_quiet (fail)
                  go_wp2_with (fail)
                  exact ⟨⟨z + 1, _, hlt, by simp, by rw [HW.out, World.drewN_drewN]⟩, meas_up hlt⟩
                · have hki2 : ¬ (z : Int) < k := by omega
                  obtain rfl : z = k := by omega
                  clear HW hz hlt hm9
                  go_wp2_with (first
                    | (go_at_call 14; go_fit (hS.out _ _ _ _ _ F13.out.p F13.out.r); rintro e w14 ⟨rfl, g14⟩; have F14 : Hid (Ft w w14 af ah ap ar L2 L1 O) := F13.out.below g14)
                    | (go_at_call 15; go_fit (hN.out _ F14.out.b); rintro e w15 ⟨rfl, g15⟩; have F15 : Hid (Ft w w15 af ah ap ar L2 L1 O) := F14.out.below g15)
                    | (go_at_call 16; go_fit (hR.out _ F15.out.b); rintro e w16 ⟨rfl, g16⟩; have F16 : Hid (Ft w w16 af ah ap ar L2 L1 O) := F15.out.below g16.below)
                    | (go_at_call 12; go_fit (hC.out _ F16.out.b); rintro e w17 ⟨aS, cS, rfl, hpS, g17⟩; have F17 : Hid (Ft w w17 af ah ap ar L2 L1 O) := F16.out.below g17)
                    | (go_at_call 17; go_fit (hQ.out _ _ _ hpS); rintro e w18 ⟨rfl, g18⟩; have F18 : Hid (Ft w w18 af ah ap ar L2 L1 O) := F17.out.below g18.below)
                    | fail)
                  all_goals first
                    | (go_ret; exact ⟨rfl, F18.out.b⟩)

set_option maxRecDepth 100000 in
theorem lifted (os : Os) (started : os.Started) (H : Type) (enc : TypeId × Value → H) :
    ReturnsInHanded {} Try.checked os 3 .any (Rows.shelfTellsSpec.pre6 enc Try.prog Try.f3 Rows.shelfTellsRow.domain false) (Rows.shelfTellsSpec.post enc Try.prog Try.f3 false true false false) := by
  refine returnsInHanded_of_change (C := Try.checked) own started (by kernel_rfl) Try.func3
    (ChangeSpec.witness6 (enc := enc) (C := Try.checked) false ⟨#[], #[.slice none 0 0, .slice none 0 0, .slice none 0 0], []⟩ 8 (by kernel_rfl) (by kernel_rfl) (by kernel_rfl) (by kernel_rfl)) ?_
  intro W base args ds gs before hval0 hW hcnd _
  have hval : ∀ (j : Nat) t v, Try.f3.params[j]? = some t → args[j]? = some v → Value.okWide Try.prog W .any base t v := hval0
  have hW' := hW
  obtain ⟨p, q, hA0, hV, rfl, hfz, hnd⟩ := hW
  have hA : DataW.TrodAll enc Try.prog W 0 (fun _ => true) true Try.f3.params.toList args.toList ds p := hA0
  rw [Try.params3] at hA hval
  obtain ⟨v0, vs0, d0, ds0, p0, q0, hargs, rfl, rfl, h0, r0⟩ := trodAll_cons hA
  obtain ⟨v1, vs1, d1, ds1, p1, q1, rfl, rfl, rfl, h1, r1⟩ := trodAll_cons r0
  obtain ⟨v2, vs2, d2, ds2, p2, q2, rfl, rfl, rfl, h2, r2⟩ := trodAll_cons r1
  obtain ⟨rfl, rfl, rfl⟩ := trodAll_nil r2
  obtain rfl : args = #[v0, v1, v2] := by cases args; simp_all
  obtain ⟨rfl, rfl⟩ := trodVars_none hV
  obtain ⟨a0, len0, cap0, rfl⟩ := okWide_slice Try.underlying22 (hval 0 22 v0 rfl rfl)
  have k0 := h0
  have lt0 : ∀ x ∈ p0, x.block < W.heap.size := by obtain ⟨m, hm⟩ := k0; exact DataW.trod_lt m _ _ _ hm
  obtain ⟨L0, rfl, b0⟩ := open_records h0
  obtain ⟨a1, len1, cap1, rfl⟩ := okWide_slice Try.underlying23 (hval 1 23 v1 rfl rfl)
  have k1 := h1
  have lt1 : ∀ x ∈ p1, x.block < W.heap.size := by obtain ⟨m, hm⟩ := k1; exact DataW.trod_lt m _ _ _ hm
  obtain ⟨L1, rfl, b1⟩ := open_writes h1
  obtain ⟨a2, len2, cap2, rfl⟩ := okWide_slice Try.underlying24 (hval 2 24 v2 rfl rfl)
  have k2 := h2
  have lt2 : ∀ x ∈ p2, x.block < W.heap.size := by obtain ⟨m, hm⟩ := k2; exact DataW.trod_lt m _ _ _ hm
  obtain ⟨L2, rfl, b2⟩ := open_ints h2
  clear hA0 hval0
  refine (walk a0 cap0 L0 a1 cap1 L1 a2 cap2 L2 W b0 b1 b2).mono fun e W' ⟨he, bel⟩ => ?_
  subst he
  exact ⟨_, rfl, _, _, _, [], _, [], hW', trodAll_mk1 (shut_bool Try.underlying4 _), (trodAll_cons_mk (Below.trod laidOut (by kernel_rfl) (of_decide_eq_true (by kernel_rfl)) k0 bel lt0) (trodAll_cons_mk (Below.trod laidOut (by kernel_rfl) (of_decide_eq_true (by kernel_rfl)) k1 bel lt1) (trodAll_cons_mk (Below.trod laidOut (by kernel_rfl) (of_decide_eq_true (by kernel_rfl)) k2 bel lt2) trodAll_mk0))), rfl, bel.frame _, fun h => by cases h⟩

theorem over : Rows.shelfTellsRow.holds Try.pinned (OpenSpec.ofChange Rows.shelfTellsSpec) :=
  OpenClaim.holds_of_wide 3 Try.f3 rfl rfl rfl rfl rfl rfl rfl ⟨rfl, rfl, rfl, rfl, rfl⟩ rfl rfl rfl rfl rfl (by kernel_rfl) Try.func3 (by kernel_rfl)
    (of_decide_eq_true (by kernel_rfl)) (by unfold Func.isWrapper; first | (rw [if_pos (by decide +kernel)]; kernel_rfl) | (rw [if_neg (by decide +kernel)]; exact ⟨rfl, rfl⟩))
    (fun os started H enc _ => lifted os started H enc)

theorem proved : Rows.ShelfTellsSaid :=
  over
end Go.Proofs.Ytbkkhafckkndfaa.shelfTells

namespace Go.Proofs.Ytbkkhafckkndfaa
theorem shelfTells_holds : Rows.ShelfTellsSaid := shelfTells.proved
end Go.Proofs.Ytbkkhafckkndfaa
