/-
  Proved: maquettelaw16.ShelfBack returns true for every two lists of records, and leaves what it was given as it was; no condition.
-/
import Derived.Test.YtbkkhafckkndfaaRows
import Derived.Test.YtbkkhafckkndfaaPk09
import Derived.Test.YtbkkhafckkndfaaPxETells
import Derived.Test.YtbkkhafckkndfaaPxEData
import Derived.Test.YtbkkhafckkndfaaPxODisk
import Derived.WalkKit
import Derived.Deep.QuietTactic
import Derived.BigQuiet
import Derived.WalkSpells
import Derived.Deep.CutRange
import Derived.Deep.CutBlock
import Derived.WalkLawsBesides
import Derived.ProofKit
import Derived.OpenShut
import Derived.ChangeOld
import Derived.Below
namespace Go.Proofs.Ytbkkhafckkndfaa.shelfBack
open Go.ChangeShapes Go.WideShapes Go.ChangeAt Go.RowKit
set_option linter.unusedVariables false

theorem own : ownKnob Try.prog.godebug = none := by kernel_rfl
theorem laidOut : laidOutB Try.prog = true := by kernel_rfl

def downT (x : Nat) : List Int := (List.range x).map fun (i : Nat) => (199 : Int) - (i : Int)
theorem downT_len (x : Nat) : (downT x).length = x := by simp [downT]
theorem downT_up (x : Nat) : downT (x + 1) = downT x ++ [199 - (x : Int)] := by simp [downT, List.range_succ]
theorem nums_drop {w : World} {b off : Nat} {l : List Int} (h : NumsAt w (some ⟨b, off, none⟩) l) (m : Nat) : NumsAt w (some ⟨b, off + m, none⟩) (l.drop m) := by
  rcases h with h | ⟨b', off', e, h⟩
  · exact .inl (by rw [h]; simp)
  · cases e
    refine .inr ⟨b, off + m, rfl, fun i hi => ?_⟩
    rw [List.length_drop] at hi
    have := h (m + i) (by omega)
    rw [Nat.add_assoc, this]
    simp [List.getD, List.getElem?_drop]
/-- What Read answers of a root that tells L, with the pages V. -/
def Rd (W : World) (n m : Nat) (L V : List Pr) (e : Ending) (w' : World) : Prop := ∃ a c ah ch, e = .returned (.tuple #[.slice a n c, .slice ah m ch, .int .i64 0]) ∧ PrsAt w' a L ∧ w'.ownsRow W.heap.size 28 2 (.slice ah m ch) m (prsV V) ∧ Below W.heap.size W w'
theorem rd_of {W w' : World} {ld : Ld} {L : List Pr} {T : List Int} {e : Ending} {n m : Nat} (hn : L.length = n) (hm : (canon ld T).length = m) (h : ReadE W w' ld (0, L, T) e) : Rd W n m L (canon ld T) e w' := by
  subst hn hm
  obtain ⟨h1, _, h3⟩ := h
  obtain ⟨v, vw, e1, r1, r2⟩ := h1 rfl
  dsimp only at r1 r2
  obtain ⟨a, c, rfl, q⟩ := prs_of r1
  obtain ⟨ah, ch, rfl, _⟩ := prs_of r2
  exact ⟨a, c, ah, ch, e1, q, r2, h3⟩
/-- The second loop's end: what the platter holds. -/
theorem laid_all {ld : Ld} {O : List Pr} {m : Nat} (hm : O.length = m) (h : Laid ld (O.take m)) : Laid ld O := by
  rw [← hm, List.take_length] at h
  exact h
theorem own_prs {w : World} {B n : Nat} {E : TypeId} {a : Option Addr} {c : Nat} {L : List Pr} (h : w.ownsRow B E 2 (.slice a n c) n (prsV L)) : PrsAt w a L := by
  obtain ⟨a', c', e, q⟩ := prs_of h
  cases e
  exact q
theorem laid_nil (ld : Ld) : Laid ld [] := fun x hx => absurd hx (by simp)
theorem err0 {e : Int} (h : (e != 0) = false) : e = 0 := by simpa using h
theorem err1 {e : Int} (h : (e != 0) = true) : ¬ e = 0 := by simpa using h

set_option maxRecDepth 100000 in
set_option maxHeartbeats 16000000 in
theorem walk (a0 : Option Addr) (cap0 : Nat) (L0 : List Pr) (a1 : Option Addr) (cap1 : Nat) (L1 : List Pr) (w : World) (b0 : Prss w a0 L0) (b1 : Prss w a1 L1):
    Calls Try.prog 4 #[.slice a0 L0.length cap0, .slice a1 L1.length cap1] w fun e w' => e = .returned (.bool true) ∧ Below w.heap.size w w' := by
  have hal : Hid (∀ W, Calls Try.prog 9 #[] W fun e w' => e = .returned (.bool true) ∧ Below W.heap.size W w') := alive16
  have hlm0 : L0.length < 9223372036854775808 := by have := b0.2.1; unfold maxLen at this; omega
  have hlm1 : L1.length < 9223372036854775808 := by have := b1.2.1; unfold maxLen at this; omega
  have HB0 : Hid (PrsAt w a0 L0) := b0.2.2
  have HB1 : Hid (PrsAt w a1 L1) := b1.2.2
  clear b0 b1
  obtain ⟨ip, zp, i1, i2, i3, i4, i5⟩ := info_kint
  obtain ⟨n0, hn0⟩ : ∃ n, L0.length = n := ⟨_, rfl⟩
  obtain ⟨n1, hn1⟩ : ∃ n, L1.length = n := ⟨_, rfl⟩
  obtain ⟨nv, hnv⟩ : ∃ n : Nat, 198 = n := ⟨_, rfl⟩
  have hFew0 : Hid (∀ W, Below w.heap.size w W → Calls Try.prog 8 #[.slice a0 n0 cap0] W fun e w' => FewEnd n0 e ∧ W = w') := fun W g => by
    rw [← hn0]
    exact (few_any L0 a0 cap0 W (HB0.out.below g) hlm0).mono fun e w' h => ⟨h.1, h.2.symm⟩
  have hFew1 : Hid (∀ W, Below w.heap.size w W → Calls Try.prog 8 #[.slice a1 n1 cap1] W fun e w' => FewEnd n1 e ∧ W = w') := fun W g => by
    rw [← hn1]
    exact (few_any L1 a1 cap1 W (HB1.out.below g) hlm1).mono fun e w' h => ⟨h.1, h.2.symm⟩
  have hC0 : Hid (n0 ≤ 120 → ∀ W, Below w.heap.size w W → Calls Try.prog 12 #[.slice a0 n0 cap0] W fun e w' => ∃ a c, e = .returned (.slice a n0 c) ∧ PrsAt w' a L0 ∧ Below W.heap.size W w') := fun hr W g => by
    subst hn0
    refine (conv_rec L0 a0 cap0 W (HB0.out.below g) (by omega)).mono fun e w' ⟨v, q1, q2, q3⟩ => ?_
    obtain ⟨a', c', rfl, q4⟩ := prs_of q2
    exact ⟨a', c', q1, q4, q3⟩
  have hC1 : Hid (n1 ≤ 120 → ∀ W, Below w.heap.size w W → Calls Try.prog 12 #[.slice a1 n1 cap1] W fun e w' => ∃ a c, e = .returned (.slice a n1 c) ∧ PrsAt w' a L1 ∧ Below W.heap.size W w') := fun hr W g => by
    subst hn1
    refine (conv_rec L1 a1 cap1 W (HB1.out.below g) (by omega)).mono fun e w' ⟨v, q1, q2, q3⟩ => ?_
    obtain ⟨a', c', rfl, q4⟩ := prs_of q2
    exact ⟨a', c', q1, q4, q3⟩
  have hS0 : Hid (n0 ≤ 120 → ∀ W a c b d, PrsAt W a L0 → PrsAt W b L0 → Calls Try.prog 22 #[.slice a n0 c, .slice b n0 d] W fun e w' => e = .returned (.bool true) ∧ Below W.heap.size W w') := fun hr W a c b d ha hb => by
    subst hn0
    exact (same_rec L0 L0 a b c d W ha hb (by omega) (by omega)).mono fun e w' he => ⟨he.1.yes rfl, he.2⟩
  have hS1 : Hid (n1 ≤ 120 → ∀ W a c b d, PrsAt W a L1 → PrsAt W b L1 → Calls Try.prog 22 #[.slice a n1 c, .slice b n1 d] W fun e w' => e = .returned (.bool true) ∧ Below W.heap.size W w') := fun hr W a c b d ha hb => by
    subst hn1
    exact (same_rec L1 L1 a b c d W ha hb (by omega) (by omega)).mono fun e w' he => ⟨he.1.yes rfl, he.2⟩
  obtain ⟨O, root, err, hO⟩ := plan_some L0 [] (downT nv)
  have hmv := plan_short hO
  rw [downT_len] at hmv
  obtain ⟨m, hm⟩ : ∃ m, O.length = m := ⟨_, rfl⟩
  rw [hm] at hmv
  have hP : Hid (n0 ≤ 120 → ∀ W v B, Below w.heap.size w W → W.ownsRow B 3 1 v nv (numsV (downT nv)) → Calls Try.prog 10 #[.slice a0 n0 cap0, .slice none 0 0, v] W fun e w' => ∃ a c, e = .returned (.tuple #[.slice a m c, .int .i64 root, .int .i64 err]) ∧ w'.ownsRow W.heap.size 28 2 (.slice a m c) m (prsV O) ∧ Below W.heap.size W w') := fun h0 W v B g hv => by
    subst hn0 hm
    obtain ⟨b, d, rfl, hb, hd⟩ := nums_of hv
    have := kplan_any L0 [] (downT nv) a0 none b cap0 0 d W (HB0.out.below g) (.inl rfl) hb (by rw [downT_len]; exact hd) (by omega) (by simp) (by rw [downT_len]; omega)
    rw [downT_len] at this
    refine this.mono fun e w' he => ?_
    obtain ⟨O', root', err', v, q1, rfl, q3, q4⟩ := he
    obtain ⟨rfl, rfl, rfl⟩ := plan_one hO q1
    obtain ⟨a', c', rfl, q5⟩ := prs_of q3
    exact ⟨a', c', rfl, q3, q4⟩
  have hP2 : Hid (n1 ≤ 120 → ∀ H F O2 r2 e2 W ah ch ax cx, PlanIs L1 H F O2 r2 e2 → H.length = m → F.length = nv - m → nv - m ≤ cx → Below w.heap.size w W → PrsAt W ah H → NumsAt W ax F → Calls Try.prog 10 #[.slice a1 n1 cap1, .slice ah m ch, .slice ax (nv - m) cx] W fun e w' => ∃ a c, e = .returned (.tuple #[.slice a O2.length c, .int .i64 r2, .int .i64 e2]) ∧ w'.ownsRow W.heap.size 28 2 (.slice a O2.length c) O2.length (prsV O2) ∧ Below W.heap.size W w') := fun h1 H F O2 r2 e2 W ah ch ax cx hPl hHl hFl hcx g hh hf => by
    subst hn1
    have := kplan_any L1 H F a1 ah ax cap1 ch cx W (HB1.out.below g) hh hf (by omega) (by omega) (by omega) (by omega)
    rw [hHl, hFl] at this
    refine this.mono fun e w' he => ?_
    obtain ⟨O', root', err', v, q1, rfl, q3, q4⟩ := he
    obtain ⟨rfl, rfl, rfl⟩ := plan_one hPl q1
    obtain ⟨a', c', rfl, q5⟩ := prs_of q3
    exact ⟨a', c', rfl, q3, q4⟩
  rw [hn0, hn1]
  have hn0' := hn0
  have hn1' := hn1
  replace hn0 : Hid (L0.length = n0) := hn0
  replace hn1 : Hid (L1.length = n1) := hn1
  replace hm : Hid (O.length = m) := hm
  replace hO : Hid (PlanIs L0 [] (downT nv) O root err) := hO
  replace hmv : Hid (m ≤ nv) := hmv
  clear hlm0 hlm1 hn0' hn1'
  have hnew : Hid (∀ W, Calls Try.prog 18 #[.int .i64 200] W fun e w' => ∃ b, e = .returned (.pointer (some ⟨b, 0, none⟩)) ∧ One W w' b (newP 200)) := fun W => one_new (w0 := W) (Below.refl _ _) (k := 200) (by decide) (by decide)
  go_enter Try.func4, Try.ntmps4
  go_wp2_with (first
    | (go_at_call 8; go_fit (hFew0.out _ (Below.refl _ _)); rintro e w1 ⟨⟨r0, rfl, hr0⟩, rfl⟩)
    | (go_at_call 8; go_fit (hFew1.out _ (Below.refl _ _)); rintro e w1 ⟨⟨r1, rfl, hr1⟩, rfl⟩)
    | (go_at_call 9; go_fit (hal.out _); rintro e w2 ⟨rfl, hA1⟩)
    | fail)
  all_goals first | (go_ret; exact ⟨rfl, hA1⟩) | skip
  replace hr0 := hr0 (by assumption)
  replace hr1 := hr1 (by assumption)
  replace hC0 : Hid _ := hC0.out hr0
  replace hC1 : Hid _ := hC1.out hr1
  replace hS0 : Hid _ := hS0.out hr0
  replace hS1 : Hid _ := hS1.out hr1
  replace hP : Hid _ := hP.out hr0
  replace hP2 : Hid _ := hP2.out hr1
  clear hFew0 hFew1 hal
  go_loopw [5, 6] (fun l i wr => ∃ (x : Nat) (j : Int), x ≤ nv ∧ j = 199 - (x : Int) ∧ i = .int .i64 j ∧ wr.ownsRow w2.heap.size 3 1 l x (numsV (downT x)) ∧ Below w2.heap.size w2 wr) (fun _ i _ => (intOf i).toNat)
  case atStart => exact ⟨0, 199, by omega, by omega, rfl, World.ownsRow_nil _ _ _ _, Below.refl _ _⟩
  case round =>
    replace hA1 : Hid (Below w.heap.size w w2) := hA1
    obtain ⟨x, j, hx, hj, rfl, hown, hB⟩ := hrel
    replace hB : Hid (Below w2.heap.size w2 wr) := hB
    replace hown : Hid (World.ownsRow wr _ _ _ _ _ _) := hown
    by_cases hlt : x < nv
    · have hki : (2 : Int) ≤ j := by omega
      have hki9 : j ≤ 199 := by omega
      replace hj : Hid (j = 199 - (x : Int)) := hj
      clear hC0 hC1 hS0 hS1 hP hP2
      go_wp2_with (first
        | (at_builtin; refine wpList_app _ rfl (.tmp 46) (.tmp 48) 24 rfl w2.heap.size 3 ip zp 1 8 Try.underlying24 i1 i2 i4 i5 i3 (by decide) _ x _ rfl (hown.out.alloc _) (some ⟨wr.heap.size, 0, none⟩) 1 1 [.int .i64 j] rfl rfl (.inr ⟨_, 0, rfl, fun j u hj => new_at _ _ _ _ (by simp) j u hj⟩) (fun u hu => by simp at hu; rcases hu with rfl; rfl) (by unfold maxLen; omega) (by omega) (by have := hB.out.size; simp at *; omega) ?_; intro v5 w5 hv5 hg5 hk5 hl5)
        | fail)
      have r1 := hown.out.alloc (.cells #[.int .i64 j] 3)
      have B2 := hB.out.trans ((((Grew.refl wr).alloc (#[.int .i64 j] : Array Value) 3).below).mono hB.out.size)
      have B3 := B2.trans ((grown_but hg5).below (fun i e => (r1.lt i e).1) B2.size)
      exact ⟨⟨x + 1, j - 1, hlt, by have := hj.out; omega, by simp, by rw [downT_up, numsV_up, ← hj.out]; exact hv5, B3⟩, by simp [intOf]; omega⟩
    · have hki : ¬ (2 : Int) ≤ j := by omega
      obtain rfl : x = nv := by omega
      clear hlt hx hj
      obtain ⟨ag, cg, el, hnu, hcg⟩ := nums_of hown.out
      obtain ⟨gg, cg', eg⟩ := own_pos hown.out (by omega)
      rw [el] at eg
      cases eg
      subst el
      have B1 := hA1.out.trans (hB.out.mono hA1.out.size)
      replace B1 : Hid (Below w.heap.size w wr) := B1
      replace hcg : Hid (x ≤ cg) := hcg
      by_cases he : ¬ err = 0
      · have hb := plan_bad hO.out he
        rw [hm.out] at hb
        obtain ⟨rfl, rfl⟩ := hb
        clear hC0 hC1 hS0 hS1 hP2
        go_wp2_with (first
          | (go_at_call 10; go_fit (hP.out _ _ _ B1.out hown.out); rintro e w3 ⟨ao, co, rfl, hO3, g3⟩)
          | fail)
        go_ret
        exact ⟨rfl, B1.out.trans (g3.mono B1.out.size)⟩
      · obtain rfl : err = 0 := Classical.byContradiction he
        have hW : Hid (Writ L0 [] O (downT x) root) := plan_good hO.out rfl
        clear he
        go_wp2_with (first
          | (go_at_call 10; go_fit (hP.out _ _ _ B1.out hown.out); rintro e w3 ⟨ao, co, rfl, hO3, g3⟩)
          | (go_at_call 18; go_fit (hnew.out _); rintro e w4 ⟨b, rfl, hOne⟩)
          | fail)
        have B3 := B1.out.trans (g3.mono B1.out.size)
        replace B3 : Hid (Below w.heap.size w w3) := B3
        have hwz3 : Hid (w.heap.size ≤ w3.heap.size) := B3.out.size
        have hnu3 : Hid (NumsAt w3 (some ⟨gg, 0, none⟩) (downT x)) := hnu.below g3
        replace hO3 : Hid (World.ownsRow w3 _ _ _ _ _ _) := hO3
        clear hnu g3 hown hB B1 hP hnew
        go_loopw [71] (fun i wv => ∃ (k : Nat) (P : Pl), k ≤ m ∧ i = .int .i64 (k : Int) ∧ One w3 wv b P ∧ Fit P k ∧ Laid (loadP P) (O.take k)) (fun i _ => m - (intOf i).toNat)
        case atStart => exact ⟨0, newP 200, Nat.zero_le _, rfl, hOne, fit_new, by rw [List.take_zero]; exact laid_nil _⟩
        case round =>
          clear hOne
          obtain ⟨k, P, hk, rfl, hOn, hF, hLd⟩ := hrel
          obtain ⟨W5, rfl⟩ : ∃ W, W = wr := ⟨_, rfl⟩
          by_cases hlt : k < m
          · have hki : (k : Int) < m := by omega
            have hrow := own_prs (row_below hO3.out hOn.2)
            obtain ⟨bo, oo, rfl, hcs⟩ := hrow.resolve_left (fun e => by have := hm.out; rw [e] at this; simp at this; omega)
            obtain ⟨c0, c1⟩ := hcs k (by rw [hm.out]; exact hlt)
            obtain ⟨g0, g1, g2⟩ := hW.out.get (k := k) (by rw [hm.out]; exact hlt)
            obtain ⟨P', hs, hF', hl'⟩ := hF.store (by omega) g1 g2
            have hup : Hid (Laid (loadP P') (O.take (k + 1))) := laid_up hLd (by rw [hm.out]; exact hlt) hW.out.nodup hl'
            have hfl := hF.float
            have hmv' := hmv.out
            have hm198 : m ≤ 198 := by omega
            have hSt : Hid (∀ W, Grew W5 W → Calls Try.prog 19 #[.pointer (some ⟨b, 0, none⟩), .int .i64 (O.getD k noPr).n, .string (O.getD k noPr).b] W fun e w' => e = .returned (.int .i64 0) ∧ One w3 w' b P') := fun W g => one_store (hOn.grew g) hs (by omega)
            generalize O.getD k noPr = X at *
            obtain ⟨N, X⟩ := X
            dsimp only at c0 c1 hSt
            clear hcs hrow hl' hs g0 g1 g2 hLd hOn hF hfl hmv' hC0 hC1 hS0 hS1 hP2 hO3 hO
            go_wp2_with (first
              | (go_at_call 19; go_fit (hSt.out _ ((Grew.refl W5).alloc _ _)); rintro e w6 ⟨rfl, hO6⟩)
              | fail)
            exact ⟨⟨k + 1, P', hlt, by simp, hO6, hF', hup.out⟩, meas_up hlt⟩
          · have hki : ¬ (k : Int) < m := by omega
            obtain rfl : k = m := by omega
            clear hk hlt
            obtain ⟨T, t1, t2, t3⟩ := hW.out.read (laid_nil _) (laid_all hm.out hLd)
            obtain ⟨hcl, hcm⟩ := canon_plan (laid_all hm.out hLd) t2 t3 hW.out.page hW.out.nodup
            have hRd := (kread_any (hOn.loads hF) root).mono (fun e w' h => by rw [t1] at h; exact rd_of hn0.out (hcl.trans hm.out) h)
            obtain ⟨H, hH⟩ : ∃ H, canon (loadP P) T = H := ⟨_, rfl⟩
            rw [hH] at hRd hcl hcm
            have hLH : Laid (loadP P) H := fun y hy => laid_all hm.out hLd y ((hcm y).1 hy)
            replace hRd : Hid (Calls Try.prog 20 #[.int .i64 root, .func (.func 21) #[.pointer (some ⟨b, 0, none⟩)] #[]] W5 fun e w' => Rd W5 n0 k L0 H e w') := hRd
            obtain ⟨O2, other, err2, hO2⟩ := plan_some L1 H ((downT x).drop k)
            obtain ⟨m2, hm2⟩ : ∃ m, O2.length = m := ⟨_, rfl⟩
            have hkx := hmv.out
            have hP2' := hP2.out H ((downT x).drop k) O2 other err2
            rw [hm2] at hP2'
            replace hP2 : Hid (∀ W ah ch ax cx, x - k ≤ cx → Below w.heap.size w W → PrsAt W ah H → NumsAt W ax ((downT x).drop k) → Calls Try.prog 10 #[.slice a1 n1 cap1, .slice ah k ch, .slice ax (x - k : Nat) cx] W fun e w' => ∃ a c, e = .returned (.tuple #[.slice a m2 c, .int .i64 other, .int .i64 err2]) ∧ w'.ownsRow W.heap.size 28 2 (.slice a m2 c) m2 (prsV O2) ∧ Below W.heap.size W w') := fun W ah ch ax cx q1 q2 q3 q4 => hP2' W ah ch ax cx hO2 (hcl.trans hm.out) (by rw [List.length_drop, downT_len]) q1 q2 q3 q4
            have hnu5 := hnu3.out.below hOn.2
            have B5 := B3.out.trans (hOn.2.mono B3.out.size)
            have hcg' := hcg.out
            have hkc : k ≤ cg := by omega
            replace B5 : Hid (Below w.heap.size w W5) := B5
            have hnil : Hid (∀ W, cg - k = 0 → NumsAt W (some ⟨gg, 0, none⟩) ((downT x).drop k)) := fun W e => .inl (List.drop_eq_nil_of_le (by rw [downT_len]; omega))
            replace hnu5 : Hid (NumsAt W5 (some ⟨gg, k, none⟩) ((downT x).drop k)) := by
              have := nums_drop hnu5 k
              rwa [Nat.zero_add] at this
            have hkd : Hid (x - k ≤ cg - k) := by
              show _ ≤ _
              omega
            replace hm2 : Hid (O2.length = m2) := hm2
            replace hO2 : Hid (PlanIs L1 H ((downT x).drop k) O2 other err2) := hO2
            replace hLH : Hid (Laid (loadP P) H) := hLH
            replace hcm : Hid (∀ y, y ∈ H ↔ y ∈ O) := hcm
            replace hcl : Hid (H.length = O.length) := hcl
            replace hF : Hid (Fit P k) := hF
            replace hOn : Hid (One w3 W5 b P) := hOn
            have hki9 : ¬ (x : Int) < k := by omega
            clear hP2' t1 t2 t3
            clear hLd hH hnu3 B3 hO3 hO
            go_wp2_with (first
              | (go_at_call 20; go_fit hRd.out; rintro e w6 ⟨ax, cx, ah, ch, rfl, hx6, hh6, g6⟩; have B6 := B5.out.trans (g6.mono B5.out.size))
              | (go_at_call 12; go_fit (hC0.out _ B6); rintro e w7 ⟨aR, cR, rfl, hR7, g7⟩; have B7 := B6.trans (g7.mono B6.size); have G7 := g6.trans (g7.mono g6.size))
              | (go_at_call 22; go_fit (hS0.out _ _ _ _ _ (hx6.below g7) hR7); rintro e w8 ⟨rfl, g8⟩; have B8 := B7.trans (g8.mono B7.size); have G8 := G7.trans (g8.mono G7.size); have hh8 := row_below (row_below hh6 g7) g8; have hnu8 := ((hnu5.out.below g6).below g7).below g8)
              | (go_at_call 10; go_fit (hP2.out _ _ _ _ _ hkd.out B8 (own_prs hh8) hnu8); rintro e w9 ⟨a9, c9, rfl, hO9, g9⟩; have B9 := B8.trans (g9.mono B8.size); have G9 := G8.trans (g9.mono G8.size); have hh9 := row_below hh8 g9)
              | (go_at_call 10; go_fit (hP2.out _ _ _ _ 0 (by have := hcg.out; omega) B8 (own_prs hh8) (hnil.out _ (by omega))); rintro e w9 ⟨a9, c9, rfl, hO9, g9⟩; have B9 := B8.trans (g9.mono B8.size); have G9 := G8.trans (g9.mono G8.size); have hh9 := row_below hh8 g9)
              | fail)
            all_goals first
              | (have hb := plan_bad hO2.out (err1 (e := err2) (by assumption)); rw [hm2.out] at hb; obtain ⟨rfl, rfl⟩ := hb; go_ret; exact ⟨rfl, B9⟩)
              | skip
            all_goals
              have he2 : err2 = 0 := err0 (e := err2) (by assumption)
              subst he2
              have hW2 : Hid (Writ L1 H O2 ((downT x).drop k) other) := plan_good hO2.out rfl
              have hD0 := Dk.start hOn.out G9
              have hG8 := G8.size
              replace B9 : Hid (Below w.heap.size w w9) := B9
              replace hh9 : Hid (World.ownsRow w9 _ _ _ _ _ _) := hh9
              replace hO9 : Hid (World.ownsRow w9 _ _ _ _ _ _) := hO9
              replace hG8 : Hid (W5.heap.size ≤ w8.heap.size) := hG8
              have hm2x : m2 ≤ 198 := by
                have := plan_short hO2.out
                rw [hm2.out, List.length_drop, downT_len] at this
                omega
              have hkx' : k ≤ 198 := by omega
              clear hO2 hRd hP2 B6 B7 B8 g6 g7 g8 g9 G7 G8 G9 hh6 hh8 hx6 hR7 hnil hnu5 hkd hcg B5
              go_loopw [132] (fun i wv => ∃ (q : Nat) (P3 : Pl), q ≤ m2 ∧ i = .int .i64 (q : Int) ∧ Dk w3 w3.heap.size W5.heap.size w9 wv b P3 ∧ Fit P3 (k + q) ∧ Laid (loadP P3) (O2.take q) ∧ Laid (loadP P3) H) (fun i _ => m2 - (intOf i).toNat)
              case atStart => exact ⟨0, P, Nat.zero_le _, rfl, hD0, hF.out, by rw [List.take_zero]; exact laid_nil _, hLH.out⟩
              case round =>
                clear hD0 hF hLH hOn hnu8
                obtain ⟨q, P3, hq, rfl, hD, hF3, hLd, hLH⟩ := hrel
                obtain ⟨W10, rfl⟩ : ∃ W, W = wr := ⟨_, rfl⟩
                have hHrow := own_prs (hD.row hh9.out (Nat.le_refl _))
                by_cases hlt : q < m2
                · have hki7 : (q : Int) < m2 := by omega
                  have hrow := own_prs (hD.row hO9.out hG8.out)
                  obtain ⟨bo2, oo2, rfl, hcs⟩ := hrow.resolve_left (fun e => by have := hm2.out; rw [e] at this; simp at this; omega)
                  obtain ⟨c0, c1⟩ := hcs q (by rw [hm2.out]; exact hlt)
                  obtain ⟨g0, g1, g2⟩ := hW2.out.get (k := q) (by rw [hm2.out]; exact hlt)
                  obtain ⟨P', hs, hF', hl'⟩ := hF3.store (by omega) g1 g2
                  have hap : ∀ y ∈ H, y.n ≠ (O2.getD q noPr).n ∧ y.b ≠ (O2.getD q noPr).b := hW2.out.apart _ (get_mem (by rw [hm2.out]; exact hlt))
                  have hup : Hid (Laid (loadP P') (O2.take (q + 1)) ∧ Laid (loadP P') H) := ⟨laid_up hLd (by rw [hm2.out]; exact hlt) hW2.out.nodup hl', laid_on hLH (fun y hy => (hap y hy).1) hl'⟩
                  have hfl := hF3.float
                  have hSt : Hid (∀ W, Grew W10 W → Calls Try.prog 19 #[.pointer (some ⟨b, 0, none⟩), .int .i64 (O2.getD q noPr).n, .string (O2.getD q noPr).b] W fun e w' => e = .returned (.int .i64 0) ∧ Dk w3 w3.heap.size W5.heap.size w9 w' b P') := fun W g => (hD.below g.below).store hs (by omega)
                  generalize O2.getD q noPr = X at *
                  obtain ⟨N, X⟩ := X
                  dsimp only at c0 c1 hSt hap
                  replace hap : Hid _ := hap
                  replace hHrow : Hid (PrsAt W10 ah H) := hHrow
                  replace hF' : Hid (Fit P' (k + q + 1)) := hF'
                  clear hcs hrow hl' hs g0 g1 g2 hLd hLH hD hF3 hfl
                  go_wp2_with (fail)
                  go_loopw [138] (fun i wv => ∃ j : Nat, j ≤ k ∧ i = .int .i64 (j : Int) ∧ Grew (W10.alloc (.cells #[.int .i64 N, .string X] 28)) wv) (fun i _ => k - (intOf i).toNat)
                  case atStart => exact ⟨0, Nat.zero_le _, rfl, Grew.refl _⟩
                  case round =>
                    obtain ⟨j, hj, rfl, hG⟩ := hrel
                    obtain ⟨W11, rfl⟩ : ∃ W, W = wr := ⟨_, rfl⟩
                    have v0 : W11.cell? ⟨W10.heap.size, 0, none⟩ = some (.int .i64 N) := below_cell hG.below (by rw [cell_of_row _ _ _ _ _ _ (heap_alloc_new W10 _)]; rfl)
                    have v1 : W11.cell? ⟨W10.heap.size, 1, none⟩ = some (.string X) := below_cell hG.below (by rw [cell_of_row _ _ _ _ _ _ (heap_alloc_new W10 _)]; rfl)
                    have G11 : Hid (Grew W10 W11) := (((Grew.refl W10).alloc (#[.int .i64 N, .string X] : Array Value) 28)).trans hG
                    by_cases hlj : j < k
                    · have hkj : (j : Int) < k := by omega
                      have hr2 := hHrow.out.below G11.out.below
                      obtain ⟨bh, oh, rfl, hcs⟩ := hr2.resolve_left (fun e => by have := hcl.out; have := hm.out; rw [e] at *; simp at *; omega)
                      have hjl : j < H.length := by have := hcl.out; have := hm.out; omega
                      obtain ⟨d0, d1⟩ := hcs j hjl
                      obtain ⟨e0, e1⟩ := hap.out _ (get_mem hjl)
                      generalize H.getD j noPr = Y at *
                      obtain ⟨M, Y⟩ := Y
                      dsimp only at d0 d1 e0 e1
                      have f0 : ¬ N = M := fun e => e0 e.symm
                      have f1 := bytes_ne' (fun e : X = Y => e1 e.symm)
                      have gM := ((Grew.refl W11).alloc (#[.int .i64 M, .string Y] : Array Value) 28).below
                      have v0a := below_cell gM v0
                      have v1a := below_cell gM v1
                      have hG' : Hid (Grew _ W11) := hG
                      clear hcs hr2 hjl e0 e1 hG gM
                      go_wp2_with (fail)
                      go_roundw
                      case rel => (repeat apply Exists.intro); exact ⟨⟨j + 1, hlj, by simp, (hG'.out.alloc _ _)⟩, rfl⟩
                      case measure => exact meas_up hlj
                    · have hkj : ¬ (j : Int) < k := by omega
                      have hkj2 : j = k := by omega
                      subst hkj2
                      clear hG hlj
                      go_wp2_with (first
                        | (go_at_call 19; go_fit (hSt.out _ G11.out); rintro e w12 ⟨rfl, hO12⟩)
                        | fail)
                      go_roundw
                      case rel => (repeat apply Exists.intro); exact ⟨⟨q + 1, P', hlt, by simp, hO12, hF'.out, hup.out.1, hup.out.2⟩, rfl⟩
                      case measure => exact meas_up hlt
                · have hki7 : ¬ (q : Int) < m2 := by omega
                  obtain rfl : q = m2 := by omega
                  clear hlt hq
                  have hLO : Laid (loadP P3) O := fun y hy => hLH y ((hcm.out y).2 hy)
                  obtain ⟨T2, t1, _, _⟩ := hW2.out.read hLH (laid_all hm2.out hLd)
                  obtain ⟨T3, s1, _, _⟩ := hW.out.read (laid_nil _) hLO
                  have hLds := hD.loads hF3
                  have B10 : Hid (Below w.heap.size w W10) := by
                    refine hD.bel B9.out ?_
                    exact hwz3.out
                  obtain ⟨V2, hV2⟩ : ∃ V, canon (loadP P3) T2 = V := ⟨_, rfl⟩
                  obtain ⟨V3, hV3⟩ : ∃ V, canon (loadP P3) T3 = V := ⟨_, rfl⟩
                  have hRd2 : Hid (Calls Try.prog 20 #[.int .i64 other, .func (.func 21) #[.pointer (some ⟨b, 0, none⟩)] #[]] W10 fun e w' => Rd W10 n1 V2.length L1 V2 e w') := (kread_any hLds other).mono (fun e w' h => by rw [t1] at h; rw [← hV2]; exact rd_of hn1.out rfl h)
                  have hRd3 : Hid (∀ W, Below W10.heap.size W10 W → Calls Try.prog 20 #[.int .i64 root, .func (.func 21) #[.pointer (some ⟨b, 0, none⟩)] #[]] W fun e w' => Rd W n0 V3.length L0 V3 e w') := fun W g => (kread_any (hLds.mono g) root).mono (fun e w' h => by rw [s1] at h; rw [← hV3]; exact rd_of hn0.out rfl h)
                  clear hLO t1 s1 hLds hV2 hV3 hD hF3 hLd hLH hHrow hcm hW hW2 hcl hh9 hO9
                  go_wp2_with (first
                    | (go_at_call 20; go_fit hRd2.out; rintro e w11 ⟨ay, cy, ay2, cy2, rfl, hy, _, g11⟩; have B11 := B10.out.trans (g11.mono B10.out.size))
                    | (go_at_call 20; go_fit (hRd3.out _ g11); rintro e w12 ⟨az, cz, az2, cz2, rfl, hz, _, g12⟩; have B12 := B11.trans (g12.mono B11.size); have hy12 := hy.below g12)
                    | (go_at_call 12; go_fit (hC1.out _ B12); rintro e w13 ⟨aR1, cR1, rfl, hR1, g13⟩; have B13 := B12.trans (g13.mono B12.size); have hz13 := hz.below g13)
                    | (go_at_call 22; go_fit (hS1.out _ _ _ _ _ (hy12.below g13) hR1); rintro e w14 ⟨rfl, g14⟩; have B14 := B13.trans (g14.mono B13.size); have hz14 := hz13.below g14)
                    | (go_at_call 12; go_fit (hC0.out _ B14); rintro e w15 ⟨aR2, cR2, rfl, hR2, g15⟩; have B15 := B14.trans (g15.mono B14.size); have hz15 := hz14.below g15)
                    | (go_at_call 22; go_fit (hS0.out _ _ _ _ _ hz15 hR2); rintro e w16 ⟨rfl, g16⟩; have B16 := B15.trans (g16.mono B15.size))
                    | fail)
                  go_ret
                  exact ⟨rfl, B16⟩

set_option maxRecDepth 100000 in
theorem lifted (os : Os) (started : os.Started) (H : Type) (enc : TypeId × Value → H) :
    ReturnsInHanded {} Try.checked os 4 .any (Rows.shelfBackSpec.pre6 enc Try.prog Try.f4 Rows.shelfBackRow.domain false) (Rows.shelfBackSpec.post enc Try.prog Try.f4 false true false false) := by
  refine returnsInHanded_of_change (C := Try.checked) own started (by kernel_rfl) Try.func4
    (ChangeSpec.witness6 (enc := enc) (C := Try.checked) false ⟨#[], #[.slice none 0 0, .slice none 0 0], []⟩ 8 (by kernel_rfl) (by kernel_rfl) (by kernel_rfl) (by kernel_rfl)) ?_
  intro W base args ds gs before hval0 hW hcnd _
  have hval : ∀ (j : Nat) t v, Try.f4.params[j]? = some t → args[j]? = some v → Value.okWide Try.prog W .any base t v := hval0
  have hW' := hW
  obtain ⟨p, q, hA0, hV, rfl, hfz, hnd⟩ := hW
  have hA : DataW.TrodAll enc Try.prog W 0 (fun _ => true) true Try.f4.params.toList args.toList ds p := hA0
  rw [Try.params4] at hA hval
  obtain ⟨v0, vs0, d0, ds0, p0, q0, hargs, rfl, rfl, h0, r0⟩ := trodAll_cons hA
  obtain ⟨v1, vs1, d1, ds1, p1, q1, rfl, rfl, rfl, h1, r1⟩ := trodAll_cons r0
  obtain ⟨rfl, rfl, rfl⟩ := trodAll_nil r1
  obtain rfl : args = #[v0, v1] := by cases args; simp_all
  obtain ⟨rfl, rfl⟩ := trodVars_none hV
  obtain ⟨a0, len0, cap0, rfl⟩ := okWide_slice Try.underlying22 (hval 0 22 v0 rfl rfl)
  have k0 := h0
  have lt0 : ∀ x ∈ p0, x.block < W.heap.size := by obtain ⟨m, hm⟩ := k0; exact DataW.trod_lt m _ _ _ hm
  obtain ⟨L0, rfl, b0⟩ := open_records h0
  obtain ⟨a1, len1, cap1, rfl⟩ := okWide_slice Try.underlying22 (hval 1 22 v1 rfl rfl)
  have k1 := h1
  have lt1 : ∀ x ∈ p1, x.block < W.heap.size := by obtain ⟨m, hm⟩ := k1; exact DataW.trod_lt m _ _ _ hm
  obtain ⟨L1, rfl, b1⟩ := open_records h1
  clear hA0 hval0
  refine (walk a0 cap0 L0 a1 cap1 L1 W b0 b1).mono fun e W' ⟨he, bel⟩ => ?_
  subst he
  exact ⟨_, rfl, _, _, _, [], _, [], hW', trodAll_mk1 (shut_bool Try.underlying4 _), (trodAll_cons_mk (Below.trod laidOut (by kernel_rfl) (of_decide_eq_true (by kernel_rfl)) k0 bel lt0) (trodAll_cons_mk (Below.trod laidOut (by kernel_rfl) (of_decide_eq_true (by kernel_rfl)) k1 bel lt1) trodAll_mk0)), rfl, bel.frame _, fun h => by cases h⟩

theorem over : Rows.shelfBackRow.holds Try.pinned (OpenSpec.ofChange Rows.shelfBackSpec) :=
  OpenClaim.holds_of_wide 4 Try.f4 rfl rfl rfl rfl rfl rfl rfl ⟨rfl, rfl, rfl, rfl, rfl⟩ rfl rfl rfl rfl rfl (by kernel_rfl) Try.func4 (by kernel_rfl)
    (of_decide_eq_true (by kernel_rfl)) (by unfold Func.isWrapper; first | (rw [if_pos (by decide +kernel)]; kernel_rfl) | (rw [if_neg (by decide +kernel)]; exact ⟨rfl, rfl⟩))
    (fun os started H enc _ => lifted os started H enc)

theorem proved : Rows.ShelfBackSaid :=
  over
end Go.Proofs.Ytbkkhafckkndfaa.shelfBack

namespace Go.Proofs.Ytbkkhafckkndfaa
theorem shelfBack_holds : Rows.ShelfBackSaid := shelfBack.proved
end Go.Proofs.Ytbkkhafckkndfaa
