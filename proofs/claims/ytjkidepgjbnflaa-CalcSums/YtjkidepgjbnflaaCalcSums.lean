/-
  For every two lists CalcSums returns true: Sum is the sum one by one or the error of the first step that fails, Dot the sum of the products likewise, and ErrArg where the lists are not as many.
-/
import Derived.Test.YtjkidepgjbnflaaRows
import Derived.Test.YtjkidepgjbnflaaCDot
import Derived.Test.YtjkidepgjbnflaaCRow
import Derived.WalkKit
import Derived.WalkSpells
import Derived.WalkLawsBesides
import Derived.ProofKit
import Derived.OpenShut
import Derived.ShutString
import Derived.ChangeOld
import Derived.Below
namespace Go.Proofs.Ytjkidepgjbnflaa.calcSums
open Go.ChangeShapes Go.WideShapes Go.ChangeAt Go.RowKit
open Go.ChangeMaps (open_string shut_string)
set_option linter.unusedVariables false

theorem own : ownKnob Try.prog.godebug = none := by kernel_rfl
theorem laidOut : laidOutB Try.prog = true := by kernel_rfl

/-- WHAT THE WALK IS TOLD OF A SLICE OF INTEGERS THAT CAME IN: it is nil; or it leads to a row of 'cap' cells, the numbers 'zs' (the first 'len' are its elements, the rest its spare room), each fitting its kind. -/
def IsRow (k : IntKind) (w : World) (a : Option Addr) (len cap : Nat) (zs : List Int) : Prop :=
  (a = none ∧ len = 0 ∧ cap = 0 ∧ zs = []) ∨
  ∃ x, a = some x ∧ len ≤ cap ∧ cap ≤ maxLen ∧ zs.length = cap ∧ (∀ i, i < zs.length → w.cell? (x.add i) = some (.int k (zs.getD i 0))) ∧ ∀ n ∈ zs, (Lit.int k n).wf = true

theorem walk (a0 : Option Addr) (len0 cap0 : Nat) (z0 : List Int) (a1 : Option Addr) (len1 cap1 : Nat) (z1 : List Int) (w : World) (w0 : IsRow .i64 w a0 len0 cap0 z0) (w1 : IsRow .i64 w a1 len1 cap1 z1) :
    Calls Try.prog 5 #[.slice a0 len0 cap0, .slice a1 len1 cap1] w fun e w' => e = .returned (.bool true) ∧ Below w.heap.size w w' := by
  have hmf := mk_func
  by_cases hl : len0 ≤ 40 ∧ len1 ≤ 40
  · obtain ⟨hl0, hl1⟩ := hl
    obtain ⟨l, rfl, hr⟩ := row_of (by omega) w0
    obtain ⟨m, rfl, hr'⟩ := row_of (by omega) w1
    have d1 : decide ((40 : Int) < (l.length : Int)) = false := by simp; omega
    have d2 : decide ((40 : Int) < (m.length : Int)) = false := by simp; omega
    clear w0 w1
    go_enter Try.func5, Try.ntmps5
    go_wp2_with (first
      | (go_at_call 9; refine (alive_any _).mono ?_; rintro e W ⟨rfl, G⟩))
    have hrW := hr.grew G
    have hrW' := hr'.grew G
    go_loop [5, 6, 30] (fun s f i => ∃ (k : Nat) (x y : Int), k ≤ l.length ∧ i = .int .i64 k ∧ s = .int .i64 x ∧ f = .int .i64 y ∧ inF x ∧ ((y = 0 ∧ sumR 0 l = sumR x (l.drop k)) ∨ (¬ y = 0 ∧ sumR 0 l = (x, y)))) (fun _ _ i => l.length - (intOf i).toNat)
    case atStart => exact ⟨0, 0, 0, by omega, rfl, rfl, rfl, ⟨by omega, by omega⟩, .inl ⟨rfl, rfl⟩⟩
    case round =>
      obtain ⟨k, x, y, hk, rfl, rfl, rfl, hx, hs⟩ := hrel
      have HS : Hid ((y = 0 ∧ sumR 0 l = sumR x (l.drop k)) ∨ (¬ y = 0 ∧ sumR 0 l = (x, y))) := hs
      clear hs
      by_cases hlt : k < l.length
      · obtain ⟨h1, h2, h3⟩ := hrW
        obtain ⟨b, off, rfl, h4⟩ : ∃ b off, a0 = some ⟨b, off, none⟩ ∧ ∀ i, i < l.length → W.cell? ⟨b, off + i, none⟩ = some (.int .i64 (l.getD i 0)) := h3.resolve_left (fun e => by simp [e] at hlt)
        obtain ⟨z, hz⟩ : ∃ z, z = l.getD k 0 := ⟨_, rfl⟩
        have hcell := h4 k hlt
        rw [← hz] at hcell
        have fz : inF z := by rw [hz]; simp [List.getD, List.getElem?_eq_getElem hlt]; exact h2 _ (List.getElem_mem hlt)
        have hst : Hid (sumR x (l.drop k) = if (addR x z).2 = 0 then sumR (addR x z).1 (l.drop (k + 1)) else addR x z) := by
          have := sumR_step l k hlt x
          rw [← hz] at this
          exact this
        have hi : (k : Int) < (l.length : Int) := by omega
        clear h4 h3 h2 hz hr hr' hrW'
        by_cases hy : y = 0
        · subst hy
          have hs2 : Hid (sumR 0 l = sumR x (l.drop k)) := HS.out.elim (fun h => h.2) (fun h => absurd rfl h.1)
          go_wp2_with (first
            | (go_at_call 16; refine (add_any _ _ _ hx fz).mono ?_; rintro e w' ⟨rfl, rfl⟩))
          refine ⟨⟨k + 1, (addR x z).1, (addR x z).2, by omega, rfl, rfl, rfl, (inR_in _).1, ?_⟩, ?_⟩
          · by_cases hq : (addR x z).2 = 0
            · exact .inl ⟨hq, hs2.out.trans (hst.out.trans (if_pos hq))⟩
            · exact .inr ⟨hq, hs2.out.trans (hst.out.trans (if_neg hq))⟩
          · simp [intOf]; omega
        · have e1 : (y == 0) = false := by simp [hy]
          go_wp2
          refine ⟨⟨k + 1, x, y, by omega, rfl, rfl, rfl, hx, .inr ⟨hy, HS.out.elim (fun h => absurd h.1 hy) (fun h => h.2)⟩⟩, ?_⟩
          simp [intOf]; omega
      · have hi : ¬ (k : Int) < (l.length : Int) := by omega
        have hrr : sumR 0 l = (x, y) := by
          rcases HS.out with ⟨h, g⟩ | ⟨h, g⟩
          · rw [g, h, List.drop_eq_nil_of_le (by omega)]; rfl
          · exact g
        have hx0 : Hid (¬ y = 0 → x = 0) := fun h => by
          have := sumR_zero l 0
          rw [hrr] at this
          exact this h
        have HR : Hid (sumR 0 l = (x, y)) := hrr
        clear hrr HS
        by_cases hy : y = 0
        · subst hy
          by_cases hlm : l.length = m.length
          · have hi2 : ((l.length : Int) != (m.length : Int)) = false := by simp [hlm]
            have HL : Hid (l.length = m.length) := hlm
            clear hlm
            obtain ⟨d, hd⟩ : ∃ d, d = dotR 0 l m := ⟨_, rfl⟩
            have HD : Hid (dotR 0 l m = d) := hd.symm
            clear hd
            go_wp2_with (first
              | (go_at_call 25; refine (sum_any _ _ l _ ?_).mono ?_; exact hrW; rintro e W1 ⟨rfl, G1⟩; rw [HR.out])
              | (go_at_call 26; refine (dot_any _ _ _ _ l m _ ?_ ?_ HL.out).mono ?_; exact hrW.grew G1; exact hrW'.grew G1; rintro e W2 ⟨rfl, G2⟩; rw [HD.out]))
            have G3 := (G.trans G1).trans G2
            have hr2 := hr.grew G3
            have hr2' := hr'.grew G3
            clear hr hr' hrW hrW' G G1 G2 HR hx0
            go_loopw [5, 6, 77] (fun s f i wr => ∃ (k n : Nat) (x z : Int), k ≤ l.length ∧ i = .int .i64 k ∧ s = .int .i64 x ∧ f = .int .i64 z ∧ inF x ∧ wr = W2.drewN n ∧ ((z = 0 ∧ d = dotR x (l.drop k) (m.drop k)) ∨ (¬ z = 0 ∧ d.2 = z))) (fun _ _ i _ => l.length - (intOf i).toNat)
            case atStart => exact ⟨0, 0, 0, 0, by omega, rfl, rfl, rfl, ⟨by omega, by omega⟩, rfl, .inl ⟨rfl, HD.out.symm⟩⟩
            case round =>
              obtain ⟨k, n, x, z, hk, rfl, rfl, rfl, hx, HW, hs⟩ := hrel
              have HN : Hid (wr = W2.drewN n) := HW
              have hrr : Row wr a0 l := hr2.grew (by rw [HW]; exact (Grew.refl W2).drewN n)
              have hrr' : Row wr a1 m := hr2'.grew (by rw [HW]; exact (Grew.refl W2).drewN n)
              have HS : Hid ((z = 0 ∧ d = dotR x (l.drop k) (m.drop k)) ∨ (¬ z = 0 ∧ d.2 = z)) := hs
              have HG : Hid (Grew w W2) := G3
              clear hs HW hr2 hr2' G3
              by_cases hlt : k < l.length
              · have hi : (k : Int) < (l.length : Int) := by omega
                by_cases hz : z = 0
                · subst hz
                  have hs2 : Hid (d = dotR x (l.drop k) (m.drop k)) := HS.out.elim (fun h => h.2) (fun h => absurd rfl h.1)
                  have hlt' : k < m.length := by have := HL.out; omega
                  have hi' : (k : Int) < (m.length : Int) := by omega
                  obtain ⟨h1, h2, h3⟩ := hrr
                  obtain ⟨g1, g2, g3⟩ := hrr'
                  obtain ⟨b0, off, rfl, h4⟩ : ∃ b off, a0 = some ⟨b, off, none⟩ ∧ ∀ i, i < l.length → wr.cell? ⟨b, off + i, none⟩ = some (.int .i64 (l.getD i 0)) := h3.resolve_left (fun e => by simp [e] at hlt)
                  obtain ⟨b1, off1, rfl, g4⟩ : ∃ b' off, a1 = some ⟨b', off, none⟩ ∧ ∀ i, i < m.length → wr.cell? ⟨b', off + i, none⟩ = some (.int .i64 (m.getD i 0)) := g3.resolve_left (fun e => by simp [e] at hlt')
                  obtain ⟨p, hp⟩ : ∃ p, p = l.getD k 0 := ⟨_, rfl⟩
                  obtain ⟨q, hq⟩ : ∃ q, q = m.getD k 0 := ⟨_, rfl⟩
                  have hcell := h4 k hlt
                  have gcell := g4 k hlt'
                  rw [← hp] at hcell
                  rw [← hq] at gcell
                  have fp : inF p := by rw [hp]; simp [List.getD, List.getElem?_eq_getElem hlt]; exact h2 _ (List.getElem_mem hlt)
                  have fq : inF q := by rw [hq]; simp [List.getD, List.getElem?_eq_getElem hlt']; exact g2 _ (List.getElem_mem hlt')
                  have hst : Hid (d = if (mulR p q).2 = 0 then (if (addR x (mulR p q).1).2 = 0 then dotR (addR x (mulR p q).1).1 (l.drop (k + 1)) (m.drop (k + 1)) else addR x (mulR p q).1) else mulR p q) := by
                    have := dotR_step l m k hlt hlt' x
                    rw [← hp, ← hq] at this
                    exact hs2.out.trans this
                  have fm : inF (mulR p q).1 := (mulR_in p q).1
                  obtain ⟨⟨v, o⟩, ho⟩ : ∃ r, r = mulR p q := ⟨_, rfl⟩
                  have HO : Hid (mulR p q = (v, o)) := ho.symm
                  rw [← ho] at hst fm
                  simp only at hst fm
                  clear h4 h3 h2 hp g4 g3 g2 hq ho hs2 HS
                  by_cases hoz : o = 0
                  · subst hoz
                    go_wp2_with (fail)
                    go_quiet (first | (go_at_call 18; exact Calls.quiet_of_same ((mul_any _ _ _ fp fq).mono fun _ _ h => ⟨h.1.trans (by rw [HO.out]), h.2⟩)))
                    go_wp2_with (first
                      | (go_at_call 16; refine (add_any _ _ _ hx fm).mono ?_; rintro e w' ⟨rfl, rfl⟩))
                    refine ⟨⟨k + 1, _, (addR x v).1, (addR x v).2, by omega, rfl, rfl, rfl, (inR_in _).1, (by rw [HN.out, World.drewN_drewN]), ?_⟩, ?_⟩
                    · by_cases h : (addR x v).2 = 0
                      · exact .inl ⟨h, hst.out.trans ((if_pos (by trivial)).trans (if_pos h))⟩
                      · exact .inr ⟨h, congrArg Prod.snd (hst.out.trans ((if_pos (by trivial)).trans (if_neg h)))⟩
                    · simp [intOf]; omega
                  · have e3 : (o == 0) = false := by simp [hoz]
                    go_wp2_with (fail)
                    go_quiet (first | (go_at_call 18; exact Calls.quiet_of_same ((mul_any _ _ _ fp fq).mono fun _ _ h => ⟨h.1.trans (by rw [HO.out]), h.2⟩)))
                    go_wp2
                    refine ⟨⟨k + 1, _, x, o, by omega, rfl, rfl, rfl, hx, (by rw [HN.out, World.drewN_drewN]), .inr ⟨hoz, congrArg Prod.snd (hst.out.trans (if_neg hoz))⟩⟩, ?_⟩
                    simp [intOf]; omega
                · have e3 : (z == 0) = false := by simp [hz]
                  go_wp2
                  refine ⟨⟨k + 1, n, x, z, by omega, rfl, rfl, rfl, hx, HN.out, .inr ⟨hz, HS.out.elim (fun h => absurd h.1 hz) (fun h => h.2)⟩⟩, ?_⟩
                  simp [intOf]; omega
              · have hi : ¬ (k : Int) < (l.length : Int) := by omega
                have hB : Below w.heap.size w wr := by rw [HN.out]; exact (HG.out.drewN n).below
                by_cases hz : z = 0
                · subst hz
                  have hdd : d = (x, 0) := by
                    have := HS.out.elim (fun h => h.2) (fun h => absurd rfl h.1)
                    rw [this, List.drop_eq_nil_of_le (by omega)]
                    simp [dotR]
                  subst hdd
                  clear HD HS HG HN hrr hrr'
                  go_wp2
                  go_ret
                  exact ⟨rfl, hB⟩
                · have hd2 : d.2 = z := HS.out.elim (fun h => absurd h.1 hz) (fun h => h.2)
                  have hd1 : d.1 = 0 := by
                    have := dotR_zero l m 0
                    rw [HD.out, hd2] at this
                    exact this hz
                  have hdd : d = (0, z) := Prod.ext hd1 hd2
                  subst hdd
                  have e3 : (z == 0) = false := by simp [hz]
                  have e4 : (z != 0) = true := by simp [hz]
                  clear HD HS HG HN hrr hrr' hd1 hd2
                  go_wp2
                  go_ret
                  exact ⟨rfl, hB⟩
          · have hi2 : ((l.length : Int) != (m.length : Int)) = true := by simp; omega
            go_wp2_with (first
              | (go_at_call 25; refine (sum_any _ _ l _ ?_).mono ?_; exact hrW; rintro e W1 ⟨rfl, G1⟩; rw [HR.out])
              | (go_at_call 26; refine (dot_arg _ _ _ _ _ _ _ hlm).mono ?_; rintro e W2 ⟨rfl, G2⟩))
            go_ret
            exact ⟨rfl, ((G.trans G1).trans G2).below⟩
        · have hx1 : x = 0 := hx0.out hy
          subst hx1
          have e1 : (y == 0) = false := by simp [hy]
          have e2 : (y != 0) = true := by simp [hy]
          by_cases hlm : l.length = m.length
          · have hi2 : ((l.length : Int) != (m.length : Int)) = false := by simp [hlm]
            have HL : Hid (l.length = m.length) := hlm
            clear hlm
            obtain ⟨d, hd⟩ : ∃ d, d = dotR 0 l m := ⟨_, rfl⟩
            have HD : Hid (dotR 0 l m = d) := hd.symm
            clear hd
            go_wp2_with (first
              | (go_at_call 25; refine (sum_any _ _ l _ ?_).mono ?_; exact hrW; rintro e W1 ⟨rfl, G1⟩; rw [HR.out])
              | (go_at_call 26; refine (dot_any _ _ _ _ l m _ ?_ ?_ HL.out).mono ?_; exact hrW.grew G1; exact hrW'.grew G1; rintro e W2 ⟨rfl, G2⟩; rw [HD.out]))
            have G3 := (G.trans G1).trans G2
            have hr2 := hr.grew G3
            have hr2' := hr'.grew G3
            clear hr hr' hrW hrW' G G1 G2 HR hx0
            go_loopw [5, 6, 77] (fun s f i wr => ∃ (k n : Nat) (x z : Int), k ≤ l.length ∧ i = .int .i64 k ∧ s = .int .i64 x ∧ f = .int .i64 z ∧ inF x ∧ wr = W2.drewN n ∧ ((z = 0 ∧ d = dotR x (l.drop k) (m.drop k)) ∨ (¬ z = 0 ∧ d.2 = z))) (fun _ _ i _ => l.length - (intOf i).toNat)
            case atStart => exact ⟨0, 0, 0, 0, by omega, rfl, rfl, rfl, ⟨by omega, by omega⟩, rfl, .inl ⟨rfl, HD.out.symm⟩⟩
            case round =>
              obtain ⟨k, n, x, z, hk, rfl, rfl, rfl, hx, HW, hs⟩ := hrel
              have HN : Hid (wr = W2.drewN n) := HW
              have hrr : Row wr a0 l := hr2.grew (by rw [HW]; exact (Grew.refl W2).drewN n)
              have hrr' : Row wr a1 m := hr2'.grew (by rw [HW]; exact (Grew.refl W2).drewN n)
              have HS : Hid ((z = 0 ∧ d = dotR x (l.drop k) (m.drop k)) ∨ (¬ z = 0 ∧ d.2 = z)) := hs
              have HG : Hid (Grew w W2) := G3
              clear hs HW hr2 hr2' G3
              by_cases hlt : k < l.length
              · have hi : (k : Int) < (l.length : Int) := by omega
                by_cases hz : z = 0
                · subst hz
                  have hs2 : Hid (d = dotR x (l.drop k) (m.drop k)) := HS.out.elim (fun h => h.2) (fun h => absurd rfl h.1)
                  have hlt' : k < m.length := by have := HL.out; omega
                  have hi' : (k : Int) < (m.length : Int) := by omega
                  obtain ⟨h1, h2, h3⟩ := hrr
                  obtain ⟨g1, g2, g3⟩ := hrr'
                  obtain ⟨b0, off, rfl, h4⟩ : ∃ b off, a0 = some ⟨b, off, none⟩ ∧ ∀ i, i < l.length → wr.cell? ⟨b, off + i, none⟩ = some (.int .i64 (l.getD i 0)) := h3.resolve_left (fun e => by simp [e] at hlt)
                  obtain ⟨b1, off1, rfl, g4⟩ : ∃ b' off, a1 = some ⟨b', off, none⟩ ∧ ∀ i, i < m.length → wr.cell? ⟨b', off + i, none⟩ = some (.int .i64 (m.getD i 0)) := g3.resolve_left (fun e => by simp [e] at hlt')
                  obtain ⟨p, hp⟩ : ∃ p, p = l.getD k 0 := ⟨_, rfl⟩
                  obtain ⟨q, hq⟩ : ∃ q, q = m.getD k 0 := ⟨_, rfl⟩
                  have hcell := h4 k hlt
                  have gcell := g4 k hlt'
                  rw [← hp] at hcell
                  rw [← hq] at gcell
                  have fp : inF p := by rw [hp]; simp [List.getD, List.getElem?_eq_getElem hlt]; exact h2 _ (List.getElem_mem hlt)
                  have fq : inF q := by rw [hq]; simp [List.getD, List.getElem?_eq_getElem hlt']; exact g2 _ (List.getElem_mem hlt')
                  have hst : Hid (d = if (mulR p q).2 = 0 then (if (addR x (mulR p q).1).2 = 0 then dotR (addR x (mulR p q).1).1 (l.drop (k + 1)) (m.drop (k + 1)) else addR x (mulR p q).1) else mulR p q) := by
                    have := dotR_step l m k hlt hlt' x
                    rw [← hp, ← hq] at this
                    exact hs2.out.trans this
                  have fm : inF (mulR p q).1 := (mulR_in p q).1
                  obtain ⟨⟨v, o⟩, ho⟩ : ∃ r, r = mulR p q := ⟨_, rfl⟩
                  have HO : Hid (mulR p q = (v, o)) := ho.symm
                  rw [← ho] at hst fm
                  simp only at hst fm
                  clear h4 h3 h2 hp g4 g3 g2 hq ho hs2 HS
                  by_cases hoz : o = 0
                  · subst hoz
                    go_wp2_with (fail)
                    go_quiet (first | (go_at_call 18; exact Calls.quiet_of_same ((mul_any _ _ _ fp fq).mono fun _ _ h => ⟨h.1.trans (by rw [HO.out]), h.2⟩)))
                    go_wp2_with (first
                      | (go_at_call 16; refine (add_any _ _ _ hx fm).mono ?_; rintro e w' ⟨rfl, rfl⟩))
                    refine ⟨⟨k + 1, _, (addR x v).1, (addR x v).2, by omega, rfl, rfl, rfl, (inR_in _).1, (by rw [HN.out, World.drewN_drewN]), ?_⟩, ?_⟩
                    · by_cases h : (addR x v).2 = 0
                      · exact .inl ⟨h, hst.out.trans ((if_pos (by trivial)).trans (if_pos h))⟩
                      · exact .inr ⟨h, congrArg Prod.snd (hst.out.trans ((if_pos (by trivial)).trans (if_neg h)))⟩
                    · simp [intOf]; omega
                  · have e3 : (o == 0) = false := by simp [hoz]
                    go_wp2_with (fail)
                    go_quiet (first | (go_at_call 18; exact Calls.quiet_of_same ((mul_any _ _ _ fp fq).mono fun _ _ h => ⟨h.1.trans (by rw [HO.out]), h.2⟩)))
                    go_wp2
                    refine ⟨⟨k + 1, _, x, o, by omega, rfl, rfl, rfl, hx, (by rw [HN.out, World.drewN_drewN]), .inr ⟨hoz, congrArg Prod.snd (hst.out.trans (if_neg hoz))⟩⟩, ?_⟩
                    simp [intOf]; omega
                · have e3 : (z == 0) = false := by simp [hz]
                  go_wp2
                  refine ⟨⟨k + 1, n, x, z, by omega, rfl, rfl, rfl, hx, HN.out, .inr ⟨hz, HS.out.elim (fun h => absurd h.1 hz) (fun h => h.2)⟩⟩, ?_⟩
                  simp [intOf]; omega
              · have hi : ¬ (k : Int) < (l.length : Int) := by omega
                have hB : Below w.heap.size w wr := by rw [HN.out]; exact (HG.out.drewN n).below
                by_cases hz : z = 0
                · subst hz
                  have hdd : d = (x, 0) := by
                    have := HS.out.elim (fun h => h.2) (fun h => absurd rfl h.1)
                    rw [this, List.drop_eq_nil_of_le (by omega)]
                    simp [dotR]
                  subst hdd
                  clear HD HS HG HN hrr hrr'
                  go_wp2
                  go_ret
                  exact ⟨rfl, hB⟩
                · have hd2 : d.2 = z := HS.out.elim (fun h => absurd h.1 hz) (fun h => h.2)
                  have hd1 : d.1 = 0 := by
                    have := dotR_zero l m 0
                    rw [HD.out, hd2] at this
                    exact this hz
                  have hdd : d = (0, z) := Prod.ext hd1 hd2
                  subst hdd
                  have e3 : (z == 0) = false := by simp [hz]
                  have e4 : (z != 0) = true := by simp [hz]
                  clear HD HS HG HN hrr hrr' hd1 hd2
                  go_wp2
                  go_ret
                  exact ⟨rfl, hB⟩
          · have hi2 : ((l.length : Int) != (m.length : Int)) = true := by simp; omega
            go_wp2_with (first
              | (go_at_call 25; refine (sum_any _ _ l _ ?_).mono ?_; exact hrW; rintro e W1 ⟨rfl, G1⟩; rw [HR.out])
              | (go_at_call 26; refine (dot_arg _ _ _ _ _ _ _ hlm).mono ?_; rintro e W2 ⟨rfl, G2⟩))
            go_ret
            exact ⟨rfl, ((G.trans G1).trans G2).below⟩
  · by_cases h0 : 40 < len0
    · have d1 : decide ((40 : Int) < (len0 : Int)) = true := by simp; omega
      go_enter Try.func5, Try.ntmps5
      go_wp2_with (first
        | (go_at_call 9; refine (alive_any _).mono ?_; rintro e w' ⟨rfl, G⟩))
      go_ret
      exact ⟨rfl, G.below⟩
    · have d1 : decide ((40 : Int) < (len0 : Int)) = false := by simp; omega
      have d2 : decide ((40 : Int) < (len1 : Int)) = true := by simp; omega
      go_enter Try.func5, Try.ntmps5
      go_wp2_with (first
        | (go_at_call 9; refine (alive_any _).mono ?_; rintro e w' ⟨rfl, G⟩))
      go_ret
      exact ⟨rfl, G.below⟩

set_option maxRecDepth 100000 in
theorem lifted (os : Os) (started : os.Started) (H : Type) (enc : TypeId × Value → H) :
    ReturnsInHanded {} Try.checked os 5 .any (Rows.calcSumsSpec.pre6 enc Try.prog Try.f5 Rows.calcSumsRow.domain false) (Rows.calcSumsSpec.post enc Try.prog Try.f5 false true false false) := by
  refine returnsInHanded_of_change (C := Try.checked) own started (by kernel_rfl) Try.func5
    (ChangeSpec.witness6 (enc := enc) (C := Try.checked) false ⟨#[], #[.slice none 0 0, .slice none 0 0], []⟩ 8 (by kernel_rfl) (by kernel_rfl) (by kernel_rfl) (by kernel_rfl)) ?_
  intro W base args ds gs before hval0 hW hcnd _
  have hval : ∀ (j : Nat) t v, Try.f5.params[j]? = some t → args[j]? = some v → Value.okWide Try.prog W .any base t v := hval0
  have hW' := hW
  obtain ⟨p, q, hA0, hV, rfl, hfz, hnd⟩ := hW
  have hA : DataW.TrodAll enc Try.prog W 0 (fun _ => true) true Try.f5.params.toList args.toList ds p := hA0
  rw [Try.params5] at hA hval
  obtain ⟨v0, vs0, d0, ds0, p0, q0, hargs, rfl, rfl, h0, r0⟩ := trodAll_cons hA
  obtain ⟨v1, vs1, d1, ds1, p1, q1, rfl, rfl, rfl, h1, r1⟩ := trodAll_cons r0
  obtain ⟨rfl, rfl, rfl⟩ := trodAll_nil r1
  obtain rfl : args = #[v0, v1] := by cases args; simp_all
  obtain ⟨rfl, rfl⟩ := trodVars_none hV
  obtain ⟨a0, len0, cap0, rfl⟩ := okWide_slice Try.underlying34 (hval 0 34 v0 rfl rfl)
  have k0 := h0
  have lt0 : ∀ x ∈ p0, x.block < W.heap.size := by obtain ⟨m, hm⟩ := k0; exact DataW.trod_lt m _ _ _ hm
  obtain ⟨z0, w0⟩ : ∃ zs, IsRow .i64 W a0 len0 cap0 zs := by
    obtain ⟨fuel, hf⟩ := h0
    rcases open_ints Try.underlying34 Try.underlying22 (by kernel_rfl) hf with ⟨hcs, _⟩ | ⟨x, l, c, zs, hcs, _, hl, hm, hz, _, hcell, hwz⟩
    · simp [Value.cells] at hcs
      obtain ⟨rfl, rfl, rfl⟩ := hcs
      exact ⟨[], .inl ⟨rfl, rfl, rfl, rfl⟩⟩
    · simp [Value.cells] at hcs
      obtain ⟨rfl, rfl, rfl⟩ := hcs
      exact ⟨zs, .inr ⟨_, rfl, hl, hm, by simpa using hz, hcell, hwz⟩⟩
  obtain ⟨a1, len1, cap1, rfl⟩ := okWide_slice Try.underlying34 (hval 1 34 v1 rfl rfl)
  have k1 := h1
  have lt1 : ∀ x ∈ p1, x.block < W.heap.size := by obtain ⟨m, hm⟩ := k1; exact DataW.trod_lt m _ _ _ hm
  obtain ⟨z1, w1⟩ : ∃ zs, IsRow .i64 W a1 len1 cap1 zs := by
    obtain ⟨fuel, hf⟩ := h1
    rcases open_ints Try.underlying34 Try.underlying22 (by kernel_rfl) hf with ⟨hcs, _⟩ | ⟨x, l, c, zs, hcs, _, hl, hm, hz, _, hcell, hwz⟩
    · simp [Value.cells] at hcs
      obtain ⟨rfl, rfl, rfl⟩ := hcs
      exact ⟨[], .inl ⟨rfl, rfl, rfl, rfl⟩⟩
    · simp [Value.cells] at hcs
      obtain ⟨rfl, rfl, rfl⟩ := hcs
      exact ⟨zs, .inr ⟨_, rfl, hl, hm, by simpa using hz, hcell, hwz⟩⟩
  clear hA0 hval0
  refine (walk a0 len0 cap0 z0 a1 len1 cap1 z1 W w0 w1).mono fun e W' ⟨he, bel⟩ => ?_
  subst he
  exact ⟨_, rfl, _, _, _, [], _, [], hW', trodAll_mk1 (shut_bool Try.underlying4 _), (trodAll_cons_mk (Below.trod laidOut (by kernel_rfl) (of_decide_eq_true (by kernel_rfl)) k0 bel lt0) (trodAll_cons_mk (Below.trod laidOut (by kernel_rfl) (of_decide_eq_true (by kernel_rfl)) k1 bel lt1) trodAll_mk0)), rfl, bel.frame _, fun h => by cases h⟩

theorem over : Rows.calcSumsRow.holds Try.pinned (OpenSpec.ofChange Rows.calcSumsSpec) :=
  OpenClaim.holds_of_wide 5 Try.f5 rfl rfl rfl rfl rfl rfl rfl ⟨rfl, rfl, rfl, rfl, rfl⟩ rfl rfl rfl rfl rfl (by kernel_rfl) Try.func5 (by kernel_rfl)
    (of_decide_eq_true (by kernel_rfl)) (by unfold Func.isWrapper; first | (rw [if_pos (by decide +kernel)]; kernel_rfl) | (rw [if_neg (by decide +kernel)]; exact ⟨rfl, rfl⟩))
    (fun os started H enc _ => lifted os started H enc)

theorem proved : Rows.CalcSumsSaid := over
end Go.Proofs.Ytjkidepgjbnflaa.calcSums

namespace Go.Proofs.Ytjkidepgjbnflaa
theorem calcSums_holds : Rows.CalcSumsSaid := calcSums.proved
end Go.Proofs.Ytjkidepgjbnflaa
