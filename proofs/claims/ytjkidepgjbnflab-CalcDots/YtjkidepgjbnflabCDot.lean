/-
  calc's Dot: the sum of the products, one by one, or the error of the first that fails.
-/
import Derived.Test.YtjkidepgjbnflabCSum
import Derived.RegionTactic
import Derived.RegionDies
import Derived.Deep.QuietTactic
import Derived.BigQuiet
namespace Go.Proofs.Ytjkidepgjbnflab
open Go.RowKit

theorem post_panic {P : Program} {fn : Func} {R : Ending → World → Prop} {c : List PanicEntry} {a : Act} {w : World} (hd : a.defers = []) (h : R (.panicked c) w) : bodyPost P fn R (.panic c) a w := ⟨hd, h⟩

theorem dotR_step (l m : List Int) (k : Nat) (hk : k < l.length) (hm : k < m.length) (s : Int) :
    dotR s (l.drop k) (m.drop k) = if (mulR (l.getD k 0) (m.getD k 0)).2 = 0 then (if (addR s (mulR (l.getD k 0) (m.getD k 0)).1).2 = 0 then dotR (addR s (mulR (l.getD k 0) (m.getD k 0)).1).1 (l.drop (k + 1)) (m.drop (k + 1)) else addR s (mulR (l.getD k 0) (m.getD k 0)).1) else mulR (l.getD k 0) (m.getD k 0) := by
  rw [List.drop_eq_getElem_cons hk, List.drop_eq_getElem_cons hm, dotR]
  simp [List.getD, List.getElem?_eq_getElem hk, List.getElem?_eq_getElem hm]

set_option maxHeartbeats 4000000 in
theorem dot1_any (p q : Addr) (a b : Option Addr) (cap cap' : Nat) (l m : List Int) (w : World) (hp : w.cell? p = some (.slice a l.length cap)) (hq : w.cell? q = some (.slice b m.length cap')) (hr : Row w a l) (hr' : Row w b m) (hlm : l.length = m.length) :
    Calls Try.prog 17 #[.pointer (some p), .pointer (some q)] w fun e w' => e = outR (dotR 0 l m) ∧ ∃ n, w' = w.drewN n := by
  obtain ⟨h1, h2, h3⟩ := hr
  obtain ⟨g1, g2, g3⟩ := hr'
  go_enter Try.func17, Try.ntmps17
  go_wp2
  go_loopw [3, 7] (fun s i wr => ∃ (k n : Nat) (x : Int), k ≤ l.length ∧ i = .int .i64 k ∧ s = .int .i64 x ∧ wr = w.drewN n ∧ inF x ∧ dotR 0 l m = dotR x (l.drop k) (m.drop k)) (fun _ i _ => l.length - (intOf i).toNat)
  case atStart => exact ⟨0, 0, 0, by omega, rfl, rfl, rfl, ⟨by omega, by omega⟩, rfl⟩
  case round =>
    obtain ⟨k, n, x, hk, rfl, rfl, HW, hx, hs⟩ := hrel
    have HN : Hid (_ = w.drewN n) := HW
    have hp' : (w.drewN n).cell? p = _ := hp
    have hq' : (w.drewN n).cell? q = _ := hq
    have h3' : l = [] ∨ ∃ b off, a = some ⟨b, off, none⟩ ∧ ∀ i, i < l.length → (w.drewN n).cell? ⟨b, off + i, none⟩ = some (.int .i64 (l.getD i 0)) := h3
    have g3' : m = [] ∨ ∃ b' off, b = some ⟨b', off, none⟩ ∧ ∀ i, i < m.length → (w.drewN n).cell? ⟨b', off + i, none⟩ = some (.int .i64 (m.getD i 0)) := g3
    rw [← HW] at hp' hq' h3' g3'
    clear hp hq h3 g3 HW
    rename_i wr _
    have HD : ∃ m, wr.drew = w.drewN m := ⟨n + 1, by rw [HN.out]; rfl⟩
    have HS : Hid (dotR 0 l m = dotR x (l.drop k) (m.drop k)) := hs
    clear hs
    by_cases hlt : k < l.length
    · obtain ⟨b0, off, rfl, h4⟩ : ∃ b off, a = some ⟨b, off, none⟩ ∧ ∀ i, i < l.length → wr.cell? ⟨b, off + i, none⟩ = some (.int .i64 (l.getD i 0)) := h3'.resolve_left (fun e => by simp [e] at hlt)
      obtain ⟨b1, off1, rfl, g4⟩ : ∃ b' off, b = some ⟨b', off, none⟩ ∧ ∀ i, i < m.length → wr.cell? ⟨b', off + i, none⟩ = some (.int .i64 (m.getD i 0)) := g3'.resolve_left (fun e => by simp [e] at hlm; simp [hlm] at hlt)
      have hlt' : k < m.length := by omega
      obtain ⟨y, hy⟩ : ∃ y, y = l.getD k 0 := ⟨_, rfl⟩
      obtain ⟨z, hz⟩ : ∃ z, z = m.getD k 0 := ⟨_, rfl⟩
      have hcell := h4 k hlt
      have gcell := g4 k hlt'
      rw [← hy] at hcell
      rw [← hz] at gcell
      have fy : inF y := by rw [hy]; simp [List.getD, List.getElem?_eq_getElem hlt]; exact h2 _ (List.getElem_mem hlt)
      have fz : inF z := by rw [hz]; simp [List.getD, List.getElem?_eq_getElem hlt']; exact g2 _ (List.getElem_mem hlt')
      have hst : Hid (dotR 0 l m = if (mulR y z).2 = 0 then (if (addR x (mulR y z).1).2 = 0 then dotR (addR x (mulR y z).1).1 (l.drop (k + 1)) (m.drop (k + 1)) else addR x (mulR y z).1) else mulR y z) := by
        have := dotR_step l m k hlt hlt' x
        rw [← hy, ← hz] at this
        exact HS.out.trans this
      have hi : (k : Int) < (l.length : Int) := by omega
      have hi' : (k : Int) < (m.length : Int) := by omega
      have HL : Hid (l.length = m.length) := hlm
      clear h4 h3' h2 hy g4 g3' g2 hz hlm
      by_cases hmul : (mulR y z).2 = 0
      · have hm : outR (mulR y z) = .returned (.int .i64 (mulR y z).1) := if_pos hmul
        have fm : inF (mulR y z).1 := (mulR_in y z).1
        by_cases hadd : (addR x (mulR y z).1).2 = 0
        · have ho : outR (addR x (mulR y z).1) = .returned (.int .i64 (addR x (mulR y z).1).1) := if_pos hadd
          go_wp2_with (fail)
          go_quiet (first
            | (go_at_call 18; exact Calls.quiet_of_same ((cmul_any _ _ _ fy fz).mono fun _ _ h => ⟨h.1.trans hm, h.2⟩))
            | (go_at_call 13; exact Calls.quiet_of_same ((cadd_any _ _ _ hx fm).mono fun _ _ h => ⟨h.1.trans ho, h.2⟩)))
          go_wp2
          refine ⟨⟨k + 1, _, (addR x (mulR y z).1).1, by omega, rfl, rfl, (by rw [HN.out, World.drewN_drewN]), (inR_fit hadd).1, ?_⟩, ?_⟩
          · rw [hst.out, if_pos hmul, if_pos hadd]
          · simp [intOf]; omega
        · have ho : outR (addR x (mulR y z).1) = .panicked [fault (addR x (mulR y z).1).2] := if_neg hadd
          have hout : .panicked [fault (addR x (mulR y z).1).2] = outR (dotR 0 l m) := by rw [hst.out, if_pos hmul, if_neg hadd, ho]
          go_wp2_with (fail)
          go_region_dies
          all_goals (refine (cmul_any _ _ _ fy fz).mono ?_; rintro e w' ⟨rfl, rfl⟩; rw [hm])
          all_goals (rename_i K hK; refine hK _ _ ?_; clear hK K; refine wpAny_ready (rs := [10]) (by kernel_rfl) (by simp) ?_; refine AllReady.cons rfl (fun K hK => ?_) AllReady.nil; go_simp)
          all_goals (refine (cadd_any _ _ _ hx fm).mono ?_; rintro e w' ⟨rfl, rfl⟩; rw [ho]; exact post_panic (P := Try.prog) (fn := Try.f17) (R := fun e w' => e = outR (dotR 0 l m) ∧ ∃ n, w' = w.drewN n) rfl ⟨hout, HD⟩)
      · have ho : outR (mulR y z) = .panicked [fault (mulR y z).2] := if_neg hmul
        have hout : .panicked [fault (mulR y z).2] = outR (dotR 0 l m) := by rw [hst.out, if_neg hmul, ho]
        go_wp2_with (fail)
        go_region_dies
        all_goals (refine (cmul_any _ _ _ fy fz).mono ?_; rintro e w' ⟨rfl, rfl⟩; rw [ho]; exact post_panic (P := Try.prog) (fn := Try.f17) (R := fun e w' => e = outR (dotR 0 l m) ∧ ∃ n, w' = w.drewN n) rfl ⟨hout, HD⟩)
    · have hi : ¬ (k : Int) < (l.length : Int) := by omega
      go_wp2
      go_ret
      refine ⟨?_, n, HN.out⟩
      rw [HS.out, List.drop_eq_nil_of_le (by omega)]
      simp [dotR, outR]

theorem sgR_bad {b : Bool} {n : Int} (h : ¬ (sgR b n).2 = 0) : (sgR b n).1 = 0 := by
  unfold sgR at *
  cases b
  · by_cases g : n < 9223372036854775808 <;> simp [g] at h ⊢
  · by_cases g : n ≤ 9223372036854775808 <;> simp [g] at h ⊢

theorem dotR_zero : ∀ (l m : List Int) (s : Int), ¬ (dotR s l m).2 = 0 → (dotR s l m).1 = 0
  | [], _, _, h => absurd (by simp [dotR]) h
  | _ :: _, [], _, h => absurd (by simp [dotR]) h
  | x :: l, y :: m, s, h => by
    rw [dotR] at *
    by_cases g : (mulR x y).2 = 0
    · rw [if_pos g] at *
      by_cases g1 : (addR s (mulR x y).1).2 = 0
      · rw [if_pos g1] at *
        exact dotR_zero l m _ h
      · rw [if_neg g1, addR, inR_bad g1]
    · rw [if_neg g]
      exact sgR_bad g

theorem dot_any (a b : Option Addr) (cap cap' : Nat) (l m : List Int) (w : World) (hr : Row w a l) (hr' : Row w b m) (hlm : l.length = m.length) :
    Calls Try.prog 7 #[.slice a l.length cap, .slice b m.length cap'] w fun e w' => e = .returned (.tuple #[.int .i64 (dotR 0 l m).1, .int .i64 (dotR 0 l m).2]) ∧ Grew w w' := by
  have hmf := mk_func
  have hi : ((l.length : Int) != (m.length : Int)) = false := by simp [hlm]
  have HL : Hid (l.length = m.length) := hlm
  clear hlm
  go_enter Try.func7, Try.ntmps7
  go_wp2_with (first
    | (go_at_call 15; refine (reckon_any _ _ _ (dotR 0 l m) (dotR_zero l m 0) (fun _ => by simp [go_sem]) ?_).mono ?_))
  · intro W G
    have G1 : Grew w W := (((Grew.refl w).alloc _ _).alloc _ _).trans G
    refine (dot1_any ⟨w.heap.size, 0, none⟩ ⟨w.heap.size + 1, 0, none⟩ a b cap cap' l m W (G.cell (by simp [go_sem])) (G.cell (by simp [go_sem])) (hr.grew G1) (hr'.grew G1) HL.out).mono ?_
    rintro e w' ⟨rfl, n, rfl⟩
    exact ⟨rfl, (Grew.refl _).drewN n⟩
  · rintro e w' ⟨rfl, G⟩
    have G1 : Grew w w' := (((Grew.refl w).alloc _ _).alloc _ _).trans G
    clear G hr hr'
    go_wp2
    go_ret2
    exact ⟨rfl, G1⟩

theorem dot_arg (a b : Option Addr) (cap cap' n k : Nat) (w : World) (hlm : ¬ n = k) :
    Calls Try.prog 7 #[.slice a n cap, .slice b k cap'] w fun e w' => e = .returned (.tuple #[.int .i64 0, .int .i64 9]) ∧ Grew w w' := by
  have hmf := mk_func
  have hi : ((n : Int) != (k : Int)) = true := by simp; omega
  go_enter Try.func7, Try.ntmps7
  go_wp2
  go_ret2
  exact ⟨rfl, ((Grew.refl w).alloc _ _).alloc _ _⟩
end Go.Proofs.Ytjkidepgjbnflab
