/-
  What the statements' Book does with lists of ints: they are marked, looked at, written over, grown.
-/
import Derived.Test.YtflffgjldoipfaaUKept
import Derived.Deep.RegionHeld2
import Derived.Deep.CutRange
import Derived.Deep.CutBlock
namespace Go.Proofs.Ytflffgjldoipfaa
open Go.RowKit

set_option maxRecDepth 10000 in
set_option maxHeartbeats 1000000 in
theorem markInts_any (i f n : Nat) (w : World) (h1 : i ≤ 1000) (h2 : f + n ≤ 1000000) :
    Calls Try.prog 70 #[.int .i64 i, .int .i64 f, .int .i64 n] w fun e w' => (∃ v, e = .returned v ∧ w'.ownsRow w.heap.size 3 1 v n ((marks markI i f n).flatMap encI)) ∧ Below w.heap.size w w' := by
  obtain ⟨i0, hi0, hz0, hz1, hz2⟩ := info_parts info_int
  go_enter Try.func70, Try.ntmps70
  go_wp2_with (fail)
  go_loopw [7, 8] (fun o k wr => ∃ t : Nat, t ≤ n ∧ k = .int .i64 ((f + t : Nat) : Int) ∧ wr.ownsRow w.heap.size 3 1 o t ((marks markI i f t).flatMap encI) ∧ Below w.heap.size w wr) (fun _ k _ => f + n - (intOf k).toNat)
  case atStart => exact ⟨0, by omega, rfl, World.ownsRow_nil _ _ _ _, Below.refl _ _⟩
  case round =>
    obtain ⟨t, ht, rfl, ho, hB⟩ := hrel
    obtain ⟨j, hj⟩ : ∃ j, f + t = j := ⟨_, rfl⟩
    rw [hj]
    by_cases hlt : t < n
    · have hi : (j : Int) < (f : Int) + (n : Int) := by omega
      have hR := marks_succ markI i f t
      rw [hj] at hR
      have HR : Hid (marks markI i f (t + 1) = marks markI i f t ++ [markI i j]) := hR
      have hsz := hB.size
      clear hR
      have HM : Hid (markI i j = -1000000 * (i : Int) - (j : Int) - 7) := rfl
      generalize hq : markI i j = q at *
      clear hq
      obtain ⟨M, hM⟩ : ∃ M, -1000000 * (i : Int) = M := ⟨_, rfl⟩
      have hM0 : -1000000000 ≤ M := by omega
      have hM1 : M ≤ 0 := by omega
      have hqv : M - (j : Int) - 7 = q := by rw [HM.out, hM]
      go_wp2_with (first
        | (at_builtin; refine wpList_app _ rfl (.tmp 17) (.tmp 23) 31 rfl w.heap.size 3 i0 (.int .i64 0) 1 8 Try.underlying31 hi0 hz0 hz1 hz2 rfl (by decide) u7 _ _ rfl (ho.alloc _) (some ⟨wr.heap.size, 0, none⟩) 1 1 (encI q) rfl rfl (.inr ⟨_, _, rfl, fun j u hj => by match j, hj with | 0, hj => (simp [encI] at hj; subst hj; simp [go_sem])⟩) (fun u hu => by simp [encI] at hu; subst hu; rfl) (by unfold maxLen; omega) (by omega) (by simp; omega) ?_; intro o1 w1 ho1 hg1 _ _))
      refine ⟨⟨t + 1, by omega, by rw [← Nat.add_assoc, hj]; rfl, ?_, (hB.alloc hsz _).grown hg1 (by simp; omega) (fun k hk => (ho.lt k hk).1)⟩, ?_⟩
      · rw [HR.out, List.flatMap_append]; simpa using ho1
      · simp [intOf]; omega
    · have hi : ¬ (j : Int) < (f : Int) + (n : Int) := by omega
      obtain rfl : t = n := by omega
      go_wp2_with (fail)
      go_ret
      exact ⟨⟨_, rfl, ho⟩, hB⟩

set_option maxRecDepth 10000 in
set_option maxHeartbeats 1000000 in
theorem copyInts_any (a : Option Addr) (cap : Nat) (l : List Int) (w : World) (h : Reads w a (l.flatMap encI)) (hl : l.length ≤ 1000000) :
    Calls Try.prog 27 #[.slice a l.length cap] w fun e w' => (∃ v, e = .returned v ∧ w'.ownsRow w.heap.size 3 1 v l.length (l.flatMap encI)) ∧ Below w.heap.size w w' := by
  obtain ⟨i0, hi0, hz0, hz1, hz2⟩ := info_parts info_int
  go_enter Try.func27, Try.ntmps27
  go_wp2_with (first
    | (at_builtin; refine wpList_app _ rfl (.const (.slice none 0 0)) (.tmp 3) 31 rfl w.heap.size 3 i0 (.int .i64 0) 1 8 Try.underlying31 hi0 hz0 hz1 hz2 rfl (by decide) (.slice none 0 0) 0 [] rfl (World.ownsRow_nil _ _ _ _) a l.length cap (l.flatMap encI) rfl (encI_len l) h (encI_one l) (by unfold maxLen; omega) (by omega) (Nat.le_refl _) ?_; intro v w1 hv hg _ _))
  go_ret
  refine ⟨⟨v, rfl, by simpa using hv⟩, (Below.refl _ w).grown hg (Nat.le_refl _) (fun k hk => by cases hk)⟩

set_option maxRecDepth 10000 in
set_option maxHeartbeats 2000000 in
theorem stillInts_any (B base : Nat) (ha qa : Option Addr) (hc qc : Nat) (R C : List (Lst Int)) (w : World) (h0 : w.cell? ⟨B, 0, none⟩ = some (.slice ha R.length hc)) (h1 : w.cell? ⟨B, 1, none⟩ = some (.slice qa C.length qc))
    (hr : Reads w ha (heads R)) (hq : Reads w qa (heads C)) (hlen : C.length = R.length) (hm : R.length ≤ 1000)
    (hown : ∀ (i : Nat) (r c : Lst Int), R[i]? = some r → C[i]? = some c → r.own encI w base 3 1 ∧ c.own encI w base 3 1 ∧ c.l = r.l ∧ r.l.length ≤ 1000000) :
    Calls Try.prog 29 #[.pointer (some ⟨B, 0, none⟩)] w fun e w' => e = .returned (.bool true) ∧ ∃ n, w' = w.drewN n := by
  have HL : Hid (C.length = R.length) := hlen
  clear hlen
  go_enter Try.func29, Try.ntmps29
  go_wp2_with (fail)
  go_loopw [3] (fun i wr => ∃ t n : Nat, t ≤ R.length ∧ i = .int .i64 t ∧ wr = w.drewN n) (fun i _ => R.length - (intOf i).toNat)
  case atStart => exact ⟨0, 0, by omega, rfl, rfl⟩
  case round =>
    obtain ⟨t, n, ht, rfl, HW⟩ := hrel
    have z0 : wr.cell? ⟨B, 0, none⟩ = some (.slice ha R.length hc) := by rw [HW]; exact h0
    have z1 : wr.cell? ⟨B, 1, none⟩ = some (.slice qa C.length qc) := by rw [HW]; exact h1
    have HN : Hid (wr = w.drewN n) := HW
    by_cases hlt : t < R.length
    · have hlt2 : t < C.length := by have := HL.out; omega
      have hi : (t : Int) < (R.length : Int) := by omega
      have hi2 : (t : Int) < (C.length : Int) := by omega
      obtain ⟨r, er⟩ : ∃ r, R[t]? = some r := ⟨_, List.getElem?_eq_getElem hlt⟩
      obtain ⟨c, ec⟩ : ∃ c, C[t]? = some c := ⟨_, List.getElem?_eq_getElem hlt2⟩
      obtain ⟨o1, o2, hcl, hsm⟩ := hown t r c er ec
      obtain ⟨hb, ho, rfl, hrc⟩ := hr.resolve_left (fun e => by have := congrArg List.length e; rw [heads_len] at this; simp at this; rw [this] at hlt; simp at hlt)
      obtain ⟨qb, qo, rfl, hqc⟩ := hq.resolve_left (fun e => by have := congrArg List.length e; rw [heads_len] at this; simp at this; rw [this] at hlt2; simp at hlt2)
      have c0 := hrc t _ (heads_get er)
      have c1 := hqc t _ (heads_get ec)
      obtain ⟨a1, cap1, e1, r1⟩ := own_reads o1
      obtain ⟨a2, cap2, e2, r2⟩ := own_reads o2
      rw [e1] at c0
      rw [e2] at c1
      have d0 : wr.cell? ⟨hb, ho + t, none⟩ = some (.slice a1 r.l.length cap1) := by rw [HW]; exact c0
      have d1 : wr.cell? ⟨qb, qo + t, none⟩ = some (.slice a2 c.l.length cap2) := by rw [HW]; exact c1
      have hS : Hid (∀ n, Calls Try.prog 17 #[.slice a1 r.l.length cap1, .slice a2 c.l.length cap2] (w.drewN n) fun e w' => e = .returned (.bool true) ∧ ∃ m, w' = w.drewN m) := fun n => by
        refine (sameints_any a1 a2 cap1 cap2 r.l c.l (w.drewN n) (readsI r1) (readsI r2) hsm).mono ?_
        rintro e w' ⟨rfl, m, rfl⟩
        exact ⟨ret_bool (by simp [hcl]), _, by rw [World.drewN_drewN]⟩
      clear hrc hqc r1 r2 o1 o2 c0 c1 er ec e1 e2 hcl h0 h1 hown hr hq
      subst HW
      go_upto_region 4 with (fail)
      go_region_held2 (fun w' => (w'.cell? ⟨B, 0, none⟩ = some (.slice (some ⟨hb, ho, none⟩) R.length hc) ∧ w'.cell? ⟨B, 1, none⟩ = some (.slice (some ⟨qb, qo, none⟩) C.length qc) ∧ w'.cell? ⟨hb, ho + t, none⟩ = some (.slice a1 r.l.length cap1) ∧ w'.cell? ⟨qb, qo + t, none⟩ = some (.slice a2 c.l.length cap2)) ∧ ∃ m, w' = w.drewN m)
        (first
          | exact ⟨⟨z0, z1, d0, d1⟩, n + 1, rfl⟩
          | (obtain ⟨m, rfl⟩ := hdr; exact ⟨⟨z0, z1, d0, d1⟩, _, rfl⟩))
        (first
          | (go_at_call 17; go_fit (hS.out _); rintro e w' ⟨rfl, hdr⟩)
          | fail)
      obtain ⟨m, rfl⟩ := hdr
      go_wp2_with (fail)
      refine ⟨⟨t + 1, m, by omega, rfl, rfl⟩, ?_⟩
      simp [intOf]; omega
    · have hi : ¬ (t : Int) < (R.length : Int) := by omega
      clear hown hr hq
      go_wp2_with (fail)
      go_ret
      exact ⟨rfl, n, rfl⟩

set_option maxRecDepth 10000 in
set_option maxHeartbeats 2000000 in
theorem markedInts_any (base : Nat) (ha : Option Addr) (hc : Nat) (R : List (Lst Int)) (w : World) (hr : Reads w ha (heads R)) (hm : R.length ≤ 1000)
    (hown : ∀ (i : Nat) (r : Lst Int), R[i]? = some r → r.own encI w base 3 1 ∧ r.l = marks markI i 0 r.l.length ∧ r.l.length ≤ 1000000) :
    Calls Try.prog 50 #[.slice ha R.length hc] w fun e w' => e = .returned (.bool true) ∧ Below w.heap.size w w' := by
  go_enter Try.func50, Try.ntmps50
  go_wp2_with (fail)
  go_loopw [3] (fun i wr => ∃ t : Nat, t ≤ R.length ∧ i = .int .i64 t ∧ Below w.heap.size w wr) (fun i _ => R.length - (intOf i).toNat)
  case atStart => exact ⟨0, by omega, rfl, Below.refl _ _⟩
  case round =>
    obtain ⟨t, ht, rfl, hB⟩ := hrel
    by_cases hlt : t < R.length
    · have hi : (t : Int) < (R.length : Int) := by omega
      obtain ⟨r, er⟩ : ∃ r, R[t]? = some r := ⟨_, List.getElem?_eq_getElem hlt⟩
      obtain ⟨o1, hl, hsm⟩ := hown t r er
      obtain ⟨hb, ho, rfl, hrc⟩ := hr.resolve_left (fun e => by have := congrArg List.length e; rw [heads_len] at this; simp at this; rw [this] at hlt; simp at hlt)
      have c0 := hrc t _ (heads_get er)
      obtain ⟨a1, cap1, e1, r1⟩ := own_reads o1
      rw [e1] at c0
      have d0 : wr.cell? ⟨hb, ho + t, none⟩ = some (.slice a1 r.l.length cap1) := (hB.cell (cell_block c0)).trans c0
      have r1 := r1.below hB
      have hS : Hid (∀ W a2 cap2, Below wr.heap.size wr W → Reads W a2 ((marks markI t 0 r.l.length).flatMap encI) → Calls Try.prog 17 #[.slice a1 r.l.length cap1, .slice a2 r.l.length cap2] W fun e w' => e = .returned (.bool true) ∧ ∃ m, w' = W.drewN m) := fun W a2 cap2 g r2 => by
        have := sameints_any a1 a2 cap1 cap2 r.l (marks markI t 0 r.l.length) W (readsI (r1.below g)) (readsI r2) hsm
        rw [marks_len] at this
        refine this.mono ?_
        rintro e w' ⟨rfl, hm⟩
        exact ⟨ret_bool (by simpa using hl), hm⟩
      have hMk : Hid (∀ W, Calls Try.prog 70 #[.int .i64 t, .int .i64 0, .int .i64 r.l.length] W fun e w' => (∃ v, e = .returned v ∧ w'.ownsRow W.heap.size 3 1 v r.l.length ((marks markI t 0 r.l.length).flatMap encI)) ∧ Below W.heap.size W w') := fun W => markInts_any t 0 r.l.length W (by omega) (by omega)
      clear hrc r1 o1 c0 er e1 hl hown hr
      go_upto_region 4 with (fail)
      go_region_held2 (fun w' => w'.cell? ⟨hb, ho + t, none⟩ = some (.slice a1 r.l.length cap1) ∧ Below wr.heap.size wr w')
        (first
          | exact ⟨d0, (Below.refl _ wr).drew⟩
          | exact keep1 (by assumption) hB1
          | exact keep1 (by assumption) hB2)
        (first
          | (go_at_call 70; go_fit (hMk.out _); rintro e w1 ⟨⟨v1, rfl, hv1⟩, hB1⟩; obtain ⟨a2, cap2, rfl, r2⟩ := own_reads hv1)
          | (go_at_call 17; go_fit (hS.out _ _ _ (And.right (by assumption : w1.cell? ⟨hb, ho + t, none⟩ = some (.slice a1 r.l.length cap1) ∧ Below wr.heap.size wr w1)) r2); rintro e w2 ⟨rfl, m2, rfl⟩; have hB2 : Below w1.heap.size w1 (w1.drewN m2) := below_drewN (Below.refl _ _) _)
          | fail)
      have hB3 : Below wr.heap.size wr (w1.drewN m2) := And.right (by assumption : (w1.drewN m2).cell? ⟨hb, ho + t, none⟩ = some (.slice a1 r.l.length cap1) ∧ Below wr.heap.size wr (w1.drewN m2))
      go_wp2_with (fail)
      refine ⟨⟨t + 1, by omega, rfl, on_trans hB hB3⟩, ?_⟩
      simp [intOf]; omega
    · have hi : ¬ (t : Int) < (R.length : Int) := by omega
      clear hown hr
      go_wp2_with (fail)
      go_ret
      exact ⟨rfl, hB⟩

theorem neInts : (31 : TypeId) ≠ 3 ∧ (42 : TypeId) ≠ 3 := by decide

set_option maxRecDepth 10000 in
set_option maxHeartbeats 4000000 in
theorem putInts_any (B base : Nat) (cs : Array Value) (ha : Option Addr) (hc : Nat) (R : List (Lst Int)) (w : World) (hbk : w.heap[B]? = some (.cells cs 42 (0, 0))) (hcs : cs[0]? = some (.slice ha R.length hc))
    (hh : w.ownsRow base 31 1 (.slice ha R.length hc) R.length (heads R)) (hm : R.length ≤ 1000) (hbase : base ≤ w.heap.size)
    (hown : ∀ (i : Nat) (r : Lst Int), R[i]? = some r → r.own encI w base 3 1 ∧ r.l.length ≤ 1000000) (hap : R.Pairwise fun a b => Apart2 a.v b.v) :
    Calls Try.prog 38 #[.pointer (some ⟨B, 0, none⟩)] w fun e w' => e = .returned (.tuple #[]) ∧
      (∀ (i : Nat) (r : Lst Int), R[i]? = some r → w'.ownsRow base 3 1 r.v r.l.length ((marks markI i 0 r.l.length).flatMap encI)) ∧ Chg base 3 w w' := by
  obtain ⟨nT, nB⟩ := neInts
  go_enter Try.func38, Try.ntmps38
  go_wp2_with (fail)
  go_loopw [2] (fun i wr => ∃ t : Nat, t ≤ R.length ∧ i = .int .i64 t ∧ (∀ (j : Nat) (r : Lst Int), R[j]? = some r → wr.ownsRow base 3 1 r.v r.l.length ((if j < t then marks markI j 0 r.l.length else r.l).flatMap encI)) ∧ Chg base 3 w wr) (fun i _ => R.length - (intOf i).toNat)
  case atStart => exact ⟨0, by omega, rfl, fun j r hj => by rw [if_neg (by omega)]; exact (hown j r hj).1, Chg.refl _ _ _⟩
  case round =>
    obtain ⟨t, ht, rfl, hO, hC⟩ := hrel
    have hbk2 := hC.cell nB hbk
    have z0 : wr.cell? ⟨B, 0, none⟩ = some (.slice ha R.length hc) := by rw [cell_of_row wr B 0 cs _ _ hbk2]; exact hcs
    have hh2 := hC.owns nT hh
    have hsz := hC.size
    by_cases hlt : t < R.length
    · have hi : (t : Int) < (R.length : Int) := by omega
      obtain ⟨r, er⟩ : ∃ r, R[t]? = some r := ⟨_, List.getElem?_eq_getElem hlt⟩
      have hsm := (hown t r er).2
      have o1 := hO t r er
      rw [if_neg (by omega)] at o1
      obtain ⟨hb, hcap, eh, _, hbs, hcur, hgh⟩ := own_some hh2 (by omega)
      cases eh
      have d0 : wr.cell? ⟨hb, t, none⟩ = some r.v := (hh2.cellAt t (by omega)).trans (heads_get er)
      obtain ⟨a1, cap1, e1, _⟩ := own_reads o1
      rw [e1] at d0
      have hMk : Hid (∀ W, Calls Try.prog 70 #[.int .i64 t, .int .i64 0, .int .i64 r.l.length] W fun e w' => (∃ v, e = .returned v ∧ w'.ownsRow W.heap.size 3 1 v r.l.length ((marks markI t 0 r.l.length).flatMap encI)) ∧ Below W.heap.size W w') := fun W => markInts_any t 0 r.l.length W (by omega) (by omega)
      go_upto_region 5 with (first
        | (go_at_call 70; go_fit (hMk.out _); rintro e w1 ⟨⟨v1, rfl, hv1⟩, hB1⟩))
      have o1' := own_on o1 hB1
      obtain ⟨am, capm, em, _⟩ := own_reads hv1
      subst em
      obtain ⟨W0, rfl⟩ : ∃ W0, W0 = wr := ⟨_, rfl⟩
      go_loopw [4] (fun k wx => ∃ s : Nat, s ≤ r.l.length ∧ k = .int .i64 s ∧ wx.ownsRow base 3 1 r.v r.l.length ((half markI t r.l s).flatMap encI) ∧ w1.grownBy wx r.v.ownBlock) (fun k _ => r.l.length - (intOf k).toNat)
      case atStart => exact ⟨0, by omega, rfl, by rw [half_none]; exact o1', gb_refl _ _⟩
      case round =>
        obtain ⟨s, hs, rfl, hX, hG⟩ := hrel
        by_cases hlt2 : s < r.l.length
        · have hi2 : (s : Int) < (r.l.length : Int) := by omega
          obtain ⟨g, capg, eg, _, hgs, gcur, hgc⟩ := own_some o1 (by omega)
          rw [eg] at e1
          cases e1
          obtain ⟨mb, _, em, hmb, _, _⟩ := own_some hv1 (by omega)
          cases em
          have nBg : B ≠ g := fun e => by rw [e, hgc] at hbk2; cases hbk2
          have nHg : hb ≠ g := fun e => by rw [e, hgc] at hgh; cases hgh
          have nMg : mb ≠ g := by omega
          rw [eg] at hX hG
          simp only [Value.ownBlock] at hG
          have y0 : wr.cell? ⟨B, 0, none⟩ = some (.slice (some ⟨hb, 0, none⟩) R.length hc) := hG.cell ((hB1.cell (cell_block z0)).trans z0) (by simpa using nBg)
          have y1 : wr.cell? ⟨hb, t, none⟩ = some (.slice (some ⟨g, 0, none⟩) r.l.length cap1) := hG.cell ((hB1.cell (cell_block d0)).trans d0) (by simpa using nHg)
          have hvx := hv1.kept hG (.inr (by simpa [Value.ownBlock] using nMg))
          obtain ⟨HA, HB, hx, hAl, hp1, hp2⟩ := half_parts markI t r.l s hlt2
          have hlen := half_len markI t r.l s hs
          clear hO hown hap hMk hh hh2 hbk hbk2 hgh hgc o1 o1' z0 d0 hB1 hv1
          have m0 : wr.cell? ⟨mb, s, none⟩ = some (.int .i64 (markI t s)) := by
            rw [hvx.cellAt s (by omega)]
            have := flat_get encI 1 (fun _ => rfl) (marks markI t 0 r.l.length) s (by rw [marks_len]; exact hlt2) 0 (by omega)
            rw [Nat.mul_one, Nat.add_zero] at this
            rw [this]
            simp [encI, marks]
          have t0 : wr.cell? ⟨g, s, none⟩ = some (.int .i64 hx) := by
            rw [hX.cellAt s (by omega)]
            have := flat_get encI 1 (fun _ => rfl) (half markI t r.l s) s (by rw [hlen]; exact hlt2) 0 (by omega)
            rw [Nat.mul_one, Nat.add_zero] at this
            rw [this]
            have e : (half markI t r.l s)[s]? = some hx := by rw [hp1, ← hAl]; simp
            obtain ⟨_, e⟩ := List.getElem?_eq_some_iff.1 e
            rw [e]; rfl
          have f0 := hX.frozenAt s
          have hXd : wr.drew.ownsRow base 3 1 (.slice (some ⟨g, 0, none⟩) r.l.length cap1) r.l.length ((half markI t r.l s).flatMap encI) := hX
          have hst := hXd.stored s (.int .i64 (markI t s))
          have hset := set1 HA HB hx (markI t s) s hAl
          rw [← hp1, ← hp2] at hset
          rw [hset] at hst
          have hG2 := gb_trans (gb_drew hG) hst.2
          have hX2 : (wr.drew.setCell ⟨g, s, none⟩ (.int .i64 (markI t s))).ownsRow base 3 1 (.slice (some ⟨g, 0, none⟩) r.l.length cap1) r.l.length ((half markI t r.l (s + 1)).flatMap encI) := hst.1
          have HX : Hid (_ ∧ _) := And.intro hX2 hG2
          generalize markI t s = q at *
          clear hXd hst hset hp1 hp2 hX hG hvx hX2 hG2
          go_upto_region 7 with (fail)
          go_region_held2 (fun w' => w'.cell? ⟨B, 0, none⟩ = some (.slice (some ⟨hb, 0, none⟩) R.length hc) ∧ w'.cell? ⟨hb, t, none⟩ = some (.slice (some ⟨g, 0, none⟩) r.l.length cap1) ∧ w'.cell? ⟨mb, s, none⟩ = some (.int .i64 q)) (first | exact ⟨y0, y1, m0⟩ | exact ⟨far1d nBg y0, far1d nHg y1, far1d nMg m0⟩) (fail)
          go_wp2_with (fail)
          refine ⟨⟨s + 1, by omega, rfl, ?_, ?_⟩, ?_⟩
          · rw [eg]; exact HX.out.1
          · rw [eg]; exact HX.out.2
          · simp [intOf]; omega
        · have hi2 : ¬ (s : Int) < (r.l.length : Int) := by omega
          obtain rfl : s = r.l.length := by omega
          rw [half_all] at hX
          have hGr : W0.grownBy wr r.v.ownBlock := gb_on hB1 hG
          have hC2 := hC.trans (Chg.by hGr o1 (by omega))
          have hE : Hid (∀ (j : Nat) (q : Lst Int), R[j]? = some q → wr.ownsRow base 3 1 q.v q.l.length ((if j < t + 1 then marks markI j 0 q.l.length else q.l).flatMap encI)) := fun j q hq => by
            by_cases e : j = t
            · subst e
              rw [er] at hq
              cases hq
              rw [if_pos (by omega)]
              exact hX
            · have h1 := hO j q hq
              have e2 : (if j < t + 1 then marks markI j 0 q.l.length else q.l) = (if j < t then marks markI j 0 q.l.length else q.l) := by
                by_cases g : j < t
                · rw [if_pos g, if_pos (by omega)]
                · rw [if_neg g, if_neg (by omega)]
              rw [e2]
              refine h1.kept hGr ?_
              cases hqb : q.v.ownBlock with
              | none => exact .inl rfl
              | some gq => exact .inr (fun h => apart_at hap hq er e gq hqb h.symm)
          clear hO hown hap hMk hh hh2 hbk hbk2 hgh o1 o1' z0 d0 hB1 hv1 hX hG hGr
          go_wp2_with (fail)
          refine ⟨⟨t + 1, by omega, rfl, hE.out, hC2⟩, ?_⟩
          simp [intOf]; omega
    · have hi : ¬ (t : Int) < (R.length : Int) := by omega
      obtain rfl : t = R.length := by omega
      have hE : Hid (∀ (i : Nat) (r : Lst Int), R[i]? = some r → wr.ownsRow base 3 1 r.v r.l.length ((marks markI i 0 r.l.length).flatMap encI)) := fun i r hr => by
        have := hO i r hr
        rw [if_pos (List.getElem?_eq_some_iff.1 hr).1] at this
        exact this
      clear hO hown hh hh2 hbk hbk2
      go_wp2_with (fail)
      go_end0
      exact ⟨rfl, hE.out, hC⟩
end Go.Proofs.Ytflffgjldoipfaa
