/-
  The document's own platter: its Fail.
-/
import Derived.Test.YtedhgejkobdihaaTRefSettle
import Derived.Test.YtedhgejkobdihaaTAlive
import Derived.Deep.CutRange
namespace Go.Proofs.Ytedhgejkobdihaa
open Go Go.RowKit

theorem Cuts.later {S : Nat → Prop} {w W : World} {a : Option Addr} {l : List Int} (h : Cuts w a l) (G : But S w W) (hS : ∀ z off, a = some ⟨z, off, none⟩ → ¬ S z) : Cuts W a l := h.but G (fun z off e _ => hS z off e)
section
variable {w : World} {base b c1 c2 : Nat} {a1 a2 : Option Addr} {R : Rp}
set_option maxRecDepth 10000 in
set_option maxHeartbeats 8000000 in
theorem rfail_any (h : RAt w base b a1 c1 a2 c2 R) (ac : Option Addr) (cap : Nat) (cuts : List Int) (hcuts : Cuts w ac cuts) (hac : ∀ z off, ac = some ⟨z, off, none⟩ → cuts ≠ [] → ¬ rfoot b a1 a2 z) :
    Calls Try.prog 21 #[.pointer (some ⟨b, 0, none⟩), .slice ac cuts.length cap] w fun e w' => e = .returned (.int .i64 (failQ R cuts).1) ∧ RStored w base b a1 c1 a2 (failQ R cuts).2 w' := by
  obtain ⟨r, hr⟩ : ∃ r, r = failL cuts 0 R.float (0, R.last) := ⟨_, rfl⟩
  have e : failQ R cuts = (r.1, ⟨r.2, [], false, -1⟩) := by rw [hr]; rfl
  rw [e]
  clear e
  have HC : Hid (Cuts w ac cuts) := hcuts
  clear hcuts
  obtain ⟨lc, hlc⟩ : ∃ lc, lc = cuts.length := ⟨_, rfl⟩
  rw [← hlc]
  replace hlc : Hid (lc = cuts.length) := hlc
  go_enter Try.func21, Try.ntmps21
  go_wp2
  go_loopw [6, 5] (fun i br wr => ∃ (k n : Nat) (L : List ByteArray), k ≤ R.float.length ∧ i = .int .i64 k ∧ (br = .int .i64 n ∧ n ≤ k) ∧ RAt wr base b a1 c1 a2 c2 ⟨L, R.float, R.dead, R.after⟩ ∧ But (rfoot b a1 a2) w wr ∧ failL cuts k (R.float.drop k) ((n : Int), L) = r) (fun i _ _ => R.float.length - (intOf i).toNat)
  case atStart => exact ⟨0, 0, R.last, by omega, rfl, ⟨rfl, Nat.le_refl _⟩, h, But.refl _ _, hr.symm⟩
  case round =>
    obtain ⟨k, n, L, hk, rfl, ⟨rfl, hnk⟩, hP, hB, hs⟩ := hrel
    have HS : Hid (failL cuts k (R.float.drop k) ((n : Int), L) = r) := hs
    have HB : Hid (But (rfoot b a1 a2) w wr) := hB
    have HP : Hid (RAt wr base b a1 c1 a2 c2 ⟨L, R.float, R.dead, R.after⟩) := hP
    have HCr := HC.out.but hB hac
    have k1 := HP.out.k1
    dsimp only at k1
    have hmany := h.ok.many
    clear hs hB hP hr
    by_cases hlt : k < R.float.length
    · have hi : (k : Int) < (R.float.length : Int) := by omega
      have hw : wrap64 ((k : Int) + 1) = k + 1 := IntWalk.wrap64_in _ ⟨by omega, by omega⟩
      have hwn : wrap64 ((n : Int) + 1) = n + 1 := IntWalk.wrap64_in _ ⟨by omega, by omega⟩
      obtain ⟨c, hcc⟩ : ∃ c, c = cutN cuts k := ⟨_, rfl⟩
      have hc : c ≤ 128 := by rw [hcc]; exact cutN_le _ _
      have hci : (c : Int) ≤ 128 := by omega
      replace hcc : Hid (c = cutN cuts k) := hcc
      go_upto_if 21 with (fail)
      go_cut [7] from 18 to 27 (fun s wx => s = .int .i64 (c : Int) ∧ wx = wr)
      case first =>
        by_cases hkc : k < lc
        · have hkc2 : (k : Int) < lc := by omega
          have hkl : k < cuts.length := by have := hlc.out; omega
          obtain ⟨z, off, rfl, hz0⟩ := HCr.2.resolve_left (fun e => by rw [e] at hkl; simp at hkl)
          have hz1 := hz0 k hkl
          obtain ⟨y, hy⟩ : ∃ y, y = cuts.getD k 0 := ⟨_, rfl⟩
          rw [← hy] at hz1
          have hcy : (c : Int) = min (max y 0) 128 := by
            rw [hcc.out]
            unfold cutN
            rw [if_pos hkl, ← hy]
            omega
          clear hz0 HCr hy
          go_wp2
          all_goals
            go_meet
            case rel =>
              refine ⟨?_, rfl⟩
              congr 1
              omega
        · have hkc2 : ¬ (k : Int) < lc := by omega
          have hc0 : c = 0 := by
            rw [hcc.out]
            unfold cutN
            rw [if_neg (by have := hlc.out; omega)]
          go_wp2
          go_meet
          case rel => exact ⟨by rw [hc0]; rfl, rfl⟩
      case rest =>
      obtain ⟨rfl, rfl⟩ := hcut
      clear HCr
      obtain ⟨x, hx⟩ : ∃ x, R.float[k]? = some x := ⟨_, List.getElem?_eq_getElem hlt⟩
      obtain ⟨hx1, hx2⟩ := HP.out.ok.float x (List.mem_of_getElem? hx)
      obtain ⟨g2, rfl, e0, e1⟩ := HP.out.st (R := ⟨L, R.float, R.dead, R.after⟩) hx
      obtain ⟨g1, rfl, hpc0⟩ := HP.out.page hx1
      obtain ⟨old, hold⟩ : ∃ old, old = pg L x.n := ⟨_, rfl⟩
      have ho : old.size = 128 := by rw [hold]; exact HP.out.ok.last _ (pg_mem hx1)
      have hT : tear old x.b c = x.b.extract 0 c ++ old.extract c 128 := tear_eq ho
      obtain ⟨q, hq⟩ : ∃ q, q = wc.heap.size := ⟨_, rfl⟩
      have hlt2 := HP.out.bg g1 (.inr (.inl rfl))
      have hltb := HP.out.bg b (.inl rfl)
      have hG : Hid (Grew wc (wc.alloc (.cells #[.int .i64 (x.n : Int), .string x.b] 62))) := (Grew.refl _).alloc _ _
      have hPW : Hid (RAt (wc.alloc (.cells #[.int .i64 (x.n : Int), .string x.b] 62)) base b (some ⟨g1, 0, none⟩) c1 (some ⟨g2, 0, none⟩) c2 ⟨L, R.float, R.dead, R.after⟩) := HP.out.but (S := fun _ => False) (Grew.but hG.out) (fun _ _ e => e)
      have d0 : (wc.alloc (.cells #[.int .i64 (x.n : Int), .string x.b] 62)).cell? ⟨q, 0, none⟩ = some (.int .i64 (x.n : Int)) := by rw [hq]; simp [go_sem]
      have d1 : (wc.alloc (.cells #[.int .i64 (x.n : Int), .string x.b] 62)).cell? ⟨q, 1, none⟩ = some (.string x.b) := by rw [hq]; simp [go_sem]
      have hki : (k : Int) < R.float.length := hi
      have HE : Hid (failL cuts (k + 1) (R.float.drop (k + 1)) (if 0 < c then (n : Int) + 1 else (n : Int), L.set x.n (tear old x.b c)) = r) := by
        have := failL_drop cuts R.float ((n : Int), L) k x hx
        rw [← hcc.out, ← hold] at this
        exact this.symm.trans HS.out
      by_cases hpos : 0 < c
      · have hci0 : (0 : Int) < (c : Int) := by omega
        go_upto_region 11 with (fail)
        have hpc : Hid ((wc.alloc (.cells #[.int .i64 (x.n : Int), .string x.b] 62)).cell? ⟨g1, x.n, none⟩ = some (.string old)) := hG.out.cell (by rw [hold]; exact hpc0)
        have hpz : Hid ((wc.alloc (.cells #[.int .i64 (x.n : Int), .string x.b] 62)).frozen? ⟨g1, x.n, none⟩ = false) := hPW.out.r1.frozenAt _
        have k0 := hPW.out.k0
        dsimp only at k0
        generalize wc.alloc (.cells #[.int .i64 (x.n : Int), .string x.b] 62) = W at *
        rw [← hq]
        obtain ⟨l, hl⟩ : ∃ l, l = L.length := ⟨_, rfl⟩
        rw [← hl] at k0
        have hxi : (x.n : Int) < l := by rw [hl]; have : x.n < L.length := hx1; omega
        have hput : Hid (RAt (W.drew.setCell ⟨g1, x.n, none⟩ (.string (x.b.extract 0 c ++ old.extract c 128))) base b (some ⟨g1, 0, none⟩) c1 (some ⟨g2, 0, none⟩) c2 ⟨L.set x.n (tear old x.b c), R.float, R.dead, R.after⟩) := by
          rw [← hT]
          exact RAt.putLast (hPW.out.but (S := fun _ => False) (Grew.but (Grew.refl _).drew) (fun _ _ e => e)) hx1 (tear_size ho hx2 hc)
        have hg1 : g1 ≠ b := hPW.out.b1 rfl
        have hgq : g1 ≠ q := by have := hlt2.2; omega
        have hsame : Hid ((W.drew.setCell ⟨g1, x.n, none⟩ (.string (x.b.extract 0 c ++ old.extract c 128))).cell? ⟨b, 0, none⟩ = some (.slice (some ⟨g1, 0, none⟩) l c1) ∧ (W.drew.setCell ⟨g1, x.n, none⟩ (.string (x.b.extract 0 c ++ old.extract c 128))).cell? ⟨q, 0, none⟩ = some (.int .i64 (x.n : Int)) ∧ (W.drew.setCell ⟨g1, x.n, none⟩ (.string (x.b.extract 0 c ++ old.extract c 128))).cell? ⟨q, 1, none⟩ = some (.string x.b)) := by
          refine ⟨?_, ?_, ?_⟩
          · rw [World.cell?_setCell_other _ _ _ _ (by intro e; exact hg1 (congrArg Addr.block e))]; exact k0
          · rw [World.cell?_setCell_other _ _ _ _ (by intro e; exact hgq (congrArg Addr.block e))]; exact d0
          · rw [World.cell?_setCell_other _ _ _ _ (by intro e; exact hgq (congrArg Addr.block e))]; exact d1
        have t0 := hpc.out
        have hz : ¬ 9223372036854775807 < (x.b.extract 0 c).size + (old.extract c 128).size := by rw [ByteArray.size_extract, ByteArray.size_extract]; omega
        replace hx : Hid (R.float[k]? = some x) := hx
        replace hl : Hid (l = L.length) := hl
        replace hT : Hid (tear old x.b c = x.b.extract 0 c ++ old.extract c 128) := hT
        replace hold : Hid (old = pg L x.n) := hold
        clear e0 e1 hpc0 hlt2 hltb hq k1 hmany
        refine lat_region (A := (fun w' => w'.cell? ⟨b, 0, none⟩ = some (.slice (some ⟨g1, 0, none⟩) l c1) ∧ w'.cell? ⟨q, 0, none⟩ = some (.int .i64 (x.n : Int)) ∧ w'.cell? ⟨q, 1, none⟩ = some (.string x.b))) (S := (fun w' => w'.cell? ⟨g1, x.n, none⟩ = some (.string old))) [22] (by kernel_rfl) ?_ (fun hH0 => ?_)
        · exact ⟨⟨k0, d0, d1⟩, t0⟩
        refine lat_free (i := 0) (oi := { dst := some 39, op := Go.Op.move (Go.Operand.tmp 0), type := 26, pos := "disk.go:124", after := #[], guard := none }) (v := ?va1) rfl (by kernel_rfl) (by kernel_rfl) (by kernel_rfl) (by kernel_rfl) (fun _ _ _ h => h) (Or.inl ⟨by rfl, ?hya1⟩) ⟨hH0.1, fun _ => hH0.2⟩ ?resta1
        case hya1 => (intro w hAw; obtain ⟨q0, q1, q2⟩ := hAw; go_simp; try (with_reducible rfl))
        simp only [Act.put, List.setIfInBounds_toArray, List.set_cons_zero, List.set_cons_succ]
        refine lat_free (i := 1) (oi := { dst := some 40, op := Go.Op.nilCheck (Go.Operand.tmp 39), type := 0, pos := "disk.go:124", after := #[{ on := 0, ground := Go.Ground.data }], guard := none }) (v := ?va2) rfl (by kernel_rfl) (by kernel_rfl) (by kernel_rfl) (by kernel_rfl) (fun _ _ _ h => h) (Or.inl ⟨by rfl, ?hya2⟩) ⟨hH0.1, fun _ => hH0.2⟩ ?resta2
        case hya2 => (intro w hAw; obtain ⟨q0, q1, q2⟩ := hAw; go_simp; try (with_reducible rfl))
        simp only [Act.put, List.setIfInBounds_toArray, List.set_cons_zero, List.set_cons_succ]
        refine lat_free (i := 2) (oi := { dst := some 41, op := Go.Op.fieldAddr 45 (Go.Operand.tmp 40) 0, type := 0, pos := "disk.go:124", after := #[{ on := 1, ground := Go.Ground.data }], guard := none }) (v := ?va3) rfl (by kernel_rfl) (by kernel_rfl) (by kernel_rfl) (by kernel_rfl) (fun _ _ _ h => h) (Or.inl ⟨by rfl, ?hya3⟩) ⟨hH0.1, fun _ => hH0.2⟩ ?resta3
        case hya3 => (intro w hAw; obtain ⟨q0, q1, q2⟩ := hAw; go_simp; try (with_reducible rfl))
        simp only [Act.put, List.setIfInBounds_toArray, List.set_cons_zero, List.set_cons_succ]
        refine lat_free (i := 3) (oi := { dst := some 42, op := Go.Op.load 42 (Go.Operand.tmp 41), type := 42, pos := "disk.go:124", after := #[{ on := 2, ground := Go.Ground.data }], guard := none }) (v := ?va4) rfl (by kernel_rfl) (by kernel_rfl) (by kernel_rfl) (by kernel_rfl) (fun _ _ _ h => h) (Or.inl ⟨by rfl, ?hya4⟩) ⟨hH0.1, fun _ => hH0.2⟩ ?resta4
        case hya4 => (intro w hAw; obtain ⟨q0, q1, q2⟩ := hAw; go_simp; try (with_reducible rfl))
        simp only [Act.put, List.setIfInBounds_toArray, List.set_cons_zero, List.set_cons_succ]
        refine lat_free (i := 4) (oi := { dst := some 43, op := Go.Op.fieldAddr 62 (Go.Operand.tmp 8) 0, type := 0, pos := "disk.go:124", after := #[], guard := none }) (v := ?va5) rfl (by kernel_rfl) (by kernel_rfl) (by kernel_rfl) (by kernel_rfl) (fun _ _ _ h => h) (Or.inl ⟨by rfl, ?hya5⟩) ⟨hH0.1, fun _ => hH0.2⟩ ?resta5
        case hya5 => (intro w hAw; obtain ⟨q0, q1, q2⟩ := hAw; go_simp; try (with_reducible rfl))
        simp only [Act.put, List.setIfInBounds_toArray, List.set_cons_zero, List.set_cons_succ]
        refine lat_free (i := 5) (oi := { dst := some 44, op := Go.Op.load 3 (Go.Operand.tmp 43), type := 3, pos := "disk.go:124", after := #[{ on := 4, ground := Go.Ground.data }], guard := none }) (v := ?va6) rfl (by kernel_rfl) (by kernel_rfl) (by kernel_rfl) (by kernel_rfl) (fun _ _ _ h => h) (Or.inl ⟨by rfl, ?hya6⟩) ⟨hH0.1, fun _ => hH0.2⟩ ?resta6
        case hya6 => (intro w hAw; obtain ⟨q0, q1, q2⟩ := hAw; go_simp; try (with_reducible rfl))
        simp only [Act.put, List.setIfInBounds_toArray, List.set_cons_zero, List.set_cons_succ]
        refine lat_free (i := 6) (oi := { dst := some 45, op := Go.Op.fieldAddr 62 (Go.Operand.tmp 8) 1, type := 0, pos := "disk.go:124", after := #[], guard := none }) (v := ?va7) rfl (by kernel_rfl) (by kernel_rfl) (by kernel_rfl) (by kernel_rfl) (fun _ _ _ h => h) (Or.inl ⟨by rfl, ?hya7⟩) ⟨hH0.1, fun _ => hH0.2⟩ ?resta7
        case hya7 => (intro w hAw; obtain ⟨q0, q1, q2⟩ := hAw; go_simp; try (with_reducible rfl))
        simp only [Act.put, List.setIfInBounds_toArray, List.set_cons_zero, List.set_cons_succ]
        refine lat_free (i := 7) (oi := { dst := some 46, op := Go.Op.load 9 (Go.Operand.tmp 45), type := 9, pos := "disk.go:124", after := #[{ on := 6, ground := Go.Ground.data }], guard := none }) (v := ?va8) rfl (by kernel_rfl) (by kernel_rfl) (by kernel_rfl) (by kernel_rfl) (fun _ _ _ h => h) (Or.inl ⟨by rfl, ?hya8⟩) ⟨hH0.1, fun _ => hH0.2⟩ ?resta8
        case hya8 => (intro w hAw; obtain ⟨q0, q1, q2⟩ := hAw; go_simp; try (with_reducible rfl))
        simp only [Act.put, List.setIfInBounds_toArray, List.set_cons_zero, List.set_cons_succ]
        refine lat_free (i := 8) (oi := { dst := some 47, op := Go.Op.move (Go.Operand.tmp 7), type := 3, pos := "disk.go:124", after := #[], guard := none }) (v := ?va9) rfl (by kernel_rfl) (by kernel_rfl) (by kernel_rfl) (by kernel_rfl) (fun _ _ _ h => h) (Or.inl ⟨by rfl, ?hya9⟩) ⟨hH0.1, fun _ => hH0.2⟩ ?resta9
        case hya9 => (intro w hAw; obtain ⟨q0, q1, q2⟩ := hAw; go_simp; try (with_reducible rfl))
        simp only [Act.put, List.setIfInBounds_toArray, List.set_cons_zero, List.set_cons_succ]
        refine lat_free (i := 9) (oi := { dst := some 48, op := Go.Op.slice 9 (Go.Operand.tmp 46) none (some (Go.Operand.tmp 47)) none, type := 9, pos := "disk.go:124", after := #[{ on := 7, ground := Go.Ground.data }, { on := 8, ground := Go.Ground.data }], guard := none }) (v := ?va10) rfl (by kernel_rfl) (by kernel_rfl) (by kernel_rfl) (by kernel_rfl) (fun _ _ _ h => h) (Or.inl ⟨by rfl, ?hya10⟩) ⟨hH0.1, fun _ => hH0.2⟩ ?resta10
        case hya10 => (intro w hAw; obtain ⟨q0, q1, q2⟩ := hAw; go_simp; try (with_reducible rfl))
        simp only [Act.put, List.setIfInBounds_toArray, List.set_cons_zero, List.set_cons_succ]
        refine lat_free (i := 10) (oi := { dst := some 49, op := Go.Op.move (Go.Operand.tmp 0), type := 26, pos := "disk.go:124", after := #[], guard := none }) (v := ?va11) rfl (by kernel_rfl) (by kernel_rfl) (by kernel_rfl) (by kernel_rfl) (fun _ _ _ h => h) (Or.inl ⟨by rfl, ?hya11⟩) ⟨hH0.1, fun _ => hH0.2⟩ ?resta11
        case hya11 => (intro w hAw; obtain ⟨q0, q1, q2⟩ := hAw; go_simp; try (with_reducible rfl))
        simp only [Act.put, List.setIfInBounds_toArray, List.set_cons_zero, List.set_cons_succ]
        refine lat_free (i := 11) (oi := { dst := some 50, op := Go.Op.nilCheck (Go.Operand.tmp 49), type := 0, pos := "disk.go:124", after := #[{ on := 10, ground := Go.Ground.data }], guard := none }) (v := ?va12) rfl (by kernel_rfl) (by kernel_rfl) (by kernel_rfl) (by kernel_rfl) (fun _ _ _ h => h) (Or.inl ⟨by rfl, ?hya12⟩) ⟨hH0.1, fun _ => hH0.2⟩ ?resta12
        case hya12 => (intro w hAw; obtain ⟨q0, q1, q2⟩ := hAw; go_simp; try (with_reducible rfl))
        simp only [Act.put, List.setIfInBounds_toArray, List.set_cons_zero, List.set_cons_succ]
        refine lat_free (i := 12) (oi := { dst := some 51, op := Go.Op.fieldAddr 45 (Go.Operand.tmp 50) 0, type := 0, pos := "disk.go:124", after := #[{ on := 11, ground := Go.Ground.data }], guard := none }) (v := ?va13) rfl (by kernel_rfl) (by kernel_rfl) (by kernel_rfl) (by kernel_rfl) (fun _ _ _ h => h) (Or.inl ⟨by rfl, ?hya13⟩) ⟨hH0.1, fun _ => hH0.2⟩ ?resta13
        case hya13 => (intro w hAw; obtain ⟨q0, q1, q2⟩ := hAw; go_simp; try (with_reducible rfl))
        simp only [Act.put, List.setIfInBounds_toArray, List.set_cons_zero, List.set_cons_succ]
        refine lat_free (i := 13) (oi := { dst := some 52, op := Go.Op.load 42 (Go.Operand.tmp 51), type := 42, pos := "disk.go:124", after := #[{ on := 12, ground := Go.Ground.data }], guard := none }) (v := ?va14) rfl (by kernel_rfl) (by kernel_rfl) (by kernel_rfl) (by kernel_rfl) (fun _ _ _ h => h) (Or.inl ⟨by rfl, ?hya14⟩) ⟨hH0.1, fun _ => hH0.2⟩ ?resta14
        case hya14 => (intro w hAw; obtain ⟨q0, q1, q2⟩ := hAw; go_simp; try (with_reducible rfl))
        simp only [Act.put, List.setIfInBounds_toArray, List.set_cons_zero, List.set_cons_succ]
        refine lat_free (i := 14) (oi := { dst := some 53, op := Go.Op.fieldAddr 62 (Go.Operand.tmp 8) 0, type := 0, pos := "disk.go:124", after := #[], guard := none }) (v := ?va15) rfl (by kernel_rfl) (by kernel_rfl) (by kernel_rfl) (by kernel_rfl) (fun _ _ _ h => h) (Or.inl ⟨by rfl, ?hya15⟩) ⟨hH0.1, fun _ => hH0.2⟩ ?resta15
        case hya15 => (intro w hAw; obtain ⟨q0, q1, q2⟩ := hAw; go_simp; try (with_reducible rfl))
        simp only [Act.put, List.setIfInBounds_toArray, List.set_cons_zero, List.set_cons_succ]
        refine lat_free (i := 15) (oi := { dst := some 54, op := Go.Op.load 3 (Go.Operand.tmp 53), type := 3, pos := "disk.go:124", after := #[{ on := 14, ground := Go.Ground.data }], guard := none }) (v := ?va16) rfl (by kernel_rfl) (by kernel_rfl) (by kernel_rfl) (by kernel_rfl) (fun _ _ _ h => h) (Or.inl ⟨by rfl, ?hya16⟩) ⟨hH0.1, fun _ => hH0.2⟩ ?resta16
        case hya16 => (intro w hAw; obtain ⟨q0, q1, q2⟩ := hAw; go_simp; try (with_reducible rfl))
        simp only [Act.put, List.setIfInBounds_toArray, List.set_cons_zero, List.set_cons_succ]
        refine lat_free (i := 16) (oi := { dst := some 55, op := Go.Op.indexAddr 42 (Go.Operand.tmp 52) (Go.Operand.tmp 54), type := 0, pos := "disk.go:124", after := #[{ on := 13, ground := Go.Ground.data }, { on := 15, ground := Go.Ground.data }], guard := none }) (v := ?va17) rfl (by kernel_rfl) (by kernel_rfl) (by kernel_rfl) (by kernel_rfl) (fun _ _ _ h => h) (Or.inl ⟨by rfl, ?hya17⟩) ⟨hH0.1, fun _ => hH0.2⟩ ?resta17
        case hya17 => (intro w hAw; obtain ⟨q0, q1, q2⟩ := hAw; go_simp; try (with_reducible rfl))
        simp only [Act.put, List.setIfInBounds_toArray, List.set_cons_zero, List.set_cons_succ]
        refine lat_take (i := 17) (oi := { dst := some 56, op := Go.Op.load 9 (Go.Operand.tmp 55), type := 9, pos := "disk.go:124", after := #[{ on := 16, ground := Go.Ground.data }], guard := none }) (v := ?va18) rfl (by kernel_rfl) (by kernel_rfl) (by kernel_rfl) (by kernel_rfl) (by kernel_rfl) (fun _ _ _ h => h) (Or.inl ⟨by rfl, ?hya18⟩) hH0 ?resta18
        case hya18 => (intro w hSw; have q3 := hSw; go_simp; try (with_reducible rfl))
        simp only [Act.put, List.setIfInBounds_toArray, List.set_cons_zero, List.set_cons_succ]
        refine lat_free (i := 18) (oi := { dst := some 57, op := Go.Op.move (Go.Operand.tmp 7), type := 3, pos := "disk.go:124", after := #[], guard := none }) (v := ?va19) rfl (by kernel_rfl) (by kernel_rfl) (by kernel_rfl) (by kernel_rfl) (fun _ _ _ h => h) (Or.inl ⟨by rfl, ?hya19⟩) ⟨hH0.1, fun _ => hH0.2⟩ ?resta19
        case hya19 => (intro w hAw; obtain ⟨q0, q1, q2⟩ := hAw; go_simp; try (with_reducible rfl))
        simp only [Act.put, List.setIfInBounds_toArray, List.set_cons_zero, List.set_cons_succ]
        refine lat_free (i := 19) (oi := { dst := some 58, op := Go.Op.slice 9 (Go.Operand.tmp 56) (some (Go.Operand.tmp 57)) none none, type := 9, pos := "disk.go:124", after := #[{ on := 17, ground := Go.Ground.data }, { on := 18, ground := Go.Ground.data }], guard := none }) (v := ?va20) rfl (by kernel_rfl) (by kernel_rfl) (by kernel_rfl) (by kernel_rfl) (fun _ _ _ h => h) (Or.inl ⟨by rfl, ?hya20⟩) ⟨hH0.1, fun _ => hH0.2⟩ ?resta20
        case hya20 => (intro w hAw; obtain ⟨q0, q1, q2⟩ := hAw; go_simp; try (with_reducible rfl))
        simp only [Act.put, List.setIfInBounds_toArray, List.set_cons_zero, List.set_cons_succ]
        refine lat_free (i := 20) (oi := { dst := some 59, op := Go.Op.binOp Go.BinOp.add 9 (Go.Operand.tmp 48) (Go.Operand.tmp 58) 9, type := 9, pos := "disk.go:124", after := #[{ on := 9, ground := Go.Ground.data }, { on := 19, ground := Go.Ground.data }], guard := none }) (v := ?va21) rfl (by kernel_rfl) (by kernel_rfl) (by kernel_rfl) (by kernel_rfl) (fun _ _ _ h => h) (Or.inl ⟨by rfl, ?hya21⟩) ⟨hH0.1, fun _ => hH0.2⟩ ?resta21
        case hya21 => (intro w hAw; obtain ⟨q0, q1, q2⟩ := hAw; go_simp; try (with_reducible rfl))
        simp only [Act.put, List.setIfInBounds_toArray, List.set_cons_zero, List.set_cons_succ]
        refine lat_free (i := 21) (oi := { dst := some 60, op := Go.Op.indexAddr 42 (Go.Operand.tmp 42) (Go.Operand.tmp 44), type := 0, pos := "disk.go:124", after := #[{ on := 3, ground := Go.Ground.data }, { on := 5, ground := Go.Ground.data }, { on := 0, ground := Go.Ground.phase }, { on := 1, ground := Go.Ground.phase }, { on := 2, ground := Go.Ground.phase }, { on := 3, ground := Go.Ground.phase }, { on := 4, ground := Go.Ground.phase }, { on := 5, ground := Go.Ground.phase }, { on := 6, ground := Go.Ground.phase }, { on := 7, ground := Go.Ground.phase }, { on := 8, ground := Go.Ground.phase }, { on := 9, ground := Go.Ground.phase }, { on := 10, ground := Go.Ground.phase }, { on := 11, ground := Go.Ground.phase }, { on := 12, ground := Go.Ground.phase }, { on := 13, ground := Go.Ground.phase }, { on := 14, ground := Go.Ground.phase }, { on := 15, ground := Go.Ground.phase }, { on := 16, ground := Go.Ground.phase }, { on := 17, ground := Go.Ground.phase }, { on := 18, ground := Go.Ground.phase }, { on := 19, ground := Go.Ground.phase }, { on := 20, ground := Go.Ground.phase }], guard := none }) (v := ?va22) rfl (by kernel_rfl) (by kernel_rfl) (by kernel_rfl) (by kernel_rfl) (fun _ _ _ h => h) (Or.inl ⟨by rfl, ?hya22⟩) ⟨hH0.1, fun _ => hH0.2⟩ ?resta22
        case hya22 => (intro w hAw; obtain ⟨q0, q1, q2⟩ := hAw; go_simp; try (with_reducible rfl))
        simp only [Act.put, List.setIfInBounds_toArray, List.set_cons_zero, List.set_cons_succ]
        refine lat_one (i := 22) (by kernel_rfl) ?_
        refine lat_write (o := { dst := none, op := Go.Op.store 9 (Go.Operand.tmp 60) (Go.Operand.tmp 59), type := 0, pos := "disk.go:124", after := #[{ on := 21, ground := Go.Ground.data }, { on := 20, ground := Go.Ground.data }, { on := 0, ground := Go.Ground.phase }, { on := 1, ground := Go.Ground.phase }, { on := 2, ground := Go.Ground.phase }, { on := 3, ground := Go.Ground.phase }, { on := 4, ground := Go.Ground.phase }, { on := 5, ground := Go.Ground.phase }, { on := 6, ground := Go.Ground.phase }, { on := 7, ground := Go.Ground.phase }, { on := 8, ground := Go.Ground.phase }, { on := 9, ground := Go.Ground.phase }, { on := 10, ground := Go.Ground.phase }, { on := 11, ground := Go.Ground.phase }, { on := 12, ground := Go.Ground.phase }, { on := 13, ground := Go.Ground.phase }, { on := 14, ground := Go.Ground.phase }, { on := 15, ground := Go.Ground.phase }, { on := 16, ground := Go.Ground.phase }, { on := 17, ground := Go.Ground.phase }, { on := 18, ground := Go.Ground.phase }, { on := 19, ground := Go.Ground.phase }, { on := 20, ground := Go.Ground.phase }], guard := none }) rfl (by kernel_rfl) (fun K hK => ?_)
        have t0 : W.cell? ⟨g1, x.n, none⟩ = some (.string old) := hpc.out
        have t1 : W.frozen? ⟨g1, x.n, none⟩ = false := hpz.out
        go_simp
        refine hK.out _ _ (hsame.out) (fun hHa23 => ?_)
        clear hK K
        refine lat_done (by kernel_rfl) ?_ _
        go_wp2_with (fail)
        refine ⟨⟨k + 1, n + 1, L.set x.n (tear old x.b c), hlt, by simp [hw], ⟨by simp, Nat.succ_le_succ hnk⟩, ?_, ?_, ?_⟩, ?_⟩
        · exact hput.out
        · exact (HB.out.trans ((Grew.but hG.out).trans (Grew.but (Grew.refl _).drew))).set (b := g1) (.inr (.inl rfl)) x.n none _
        · exact (by have := HE.out; rw [if_pos hpos] at this; exact this)
        · exact rmeas _ _ hlt hw
      · have hci0 : ¬ (0 : Int) < (c : Int) := by omega
        go_upto_region 11 with (fail)
        have hpc : Hid ((wc.alloc (.cells #[.int .i64 (x.n : Int), .string x.b] 62)).cell? ⟨g1, x.n, none⟩ = some (.string old)) := hG.out.cell (by rw [hold]; exact hpc0)
        have hpz : Hid ((wc.alloc (.cells #[.int .i64 (x.n : Int), .string x.b] 62)).frozen? ⟨g1, x.n, none⟩ = false) := hPW.out.r1.frozenAt _
        have k0 := hPW.out.k0
        dsimp only at k0
        generalize wc.alloc (.cells #[.int .i64 (x.n : Int), .string x.b] 62) = W at *
        rw [← hq]
        obtain ⟨l, hl⟩ : ∃ l, l = L.length := ⟨_, rfl⟩
        rw [← hl] at k0
        have hxi : (x.n : Int) < l := by rw [hl]; have : x.n < L.length := hx1; omega
        have hput : Hid (RAt (W.drew.setCell ⟨g1, x.n, none⟩ (.string (x.b.extract 0 c ++ old.extract c 128))) base b (some ⟨g1, 0, none⟩) c1 (some ⟨g2, 0, none⟩) c2 ⟨L.set x.n (tear old x.b c), R.float, R.dead, R.after⟩) := by
          rw [← hT]
          exact RAt.putLast (hPW.out.but (S := fun _ => False) (Grew.but (Grew.refl _).drew) (fun _ _ e => e)) hx1 (tear_size ho hx2 hc)
        have hg1 : g1 ≠ b := hPW.out.b1 rfl
        have hgq : g1 ≠ q := by have := hlt2.2; omega
        have hsame : Hid ((W.drew.setCell ⟨g1, x.n, none⟩ (.string (x.b.extract 0 c ++ old.extract c 128))).cell? ⟨b, 0, none⟩ = some (.slice (some ⟨g1, 0, none⟩) l c1) ∧ (W.drew.setCell ⟨g1, x.n, none⟩ (.string (x.b.extract 0 c ++ old.extract c 128))).cell? ⟨q, 0, none⟩ = some (.int .i64 (x.n : Int)) ∧ (W.drew.setCell ⟨g1, x.n, none⟩ (.string (x.b.extract 0 c ++ old.extract c 128))).cell? ⟨q, 1, none⟩ = some (.string x.b)) := by
          refine ⟨?_, ?_, ?_⟩
          · rw [World.cell?_setCell_other _ _ _ _ (by intro e; exact hg1 (congrArg Addr.block e))]; exact k0
          · rw [World.cell?_setCell_other _ _ _ _ (by intro e; exact hgq (congrArg Addr.block e))]; exact d0
          · rw [World.cell?_setCell_other _ _ _ _ (by intro e; exact hgq (congrArg Addr.block e))]; exact d1
        have t0 := hpc.out
        have hz : ¬ 9223372036854775807 < (x.b.extract 0 c).size + (old.extract c 128).size := by rw [ByteArray.size_extract, ByteArray.size_extract]; omega
        replace hx : Hid (R.float[k]? = some x) := hx
        replace hl : Hid (l = L.length) := hl
        replace hT : Hid (tear old x.b c = x.b.extract 0 c ++ old.extract c 128) := hT
        replace hold : Hid (old = pg L x.n) := hold
        clear e0 e1 hpc0 hlt2 hltb hq k1 hmany
        refine lat_region (A := (fun w' => w'.cell? ⟨b, 0, none⟩ = some (.slice (some ⟨g1, 0, none⟩) l c1) ∧ w'.cell? ⟨q, 0, none⟩ = some (.int .i64 (x.n : Int)) ∧ w'.cell? ⟨q, 1, none⟩ = some (.string x.b))) (S := (fun w' => w'.cell? ⟨g1, x.n, none⟩ = some (.string old))) [22] (by kernel_rfl) ?_ (fun hH0 => ?_)
        · exact ⟨⟨k0, d0, d1⟩, t0⟩
        refine lat_free (i := 0) (oi := { dst := some 39, op := Go.Op.move (Go.Operand.tmp 0), type := 26, pos := "disk.go:124", after := #[], guard := none }) (v := ?vc1) rfl (by kernel_rfl) (by kernel_rfl) (by kernel_rfl) (by kernel_rfl) (fun _ _ _ h => h) (Or.inl ⟨by rfl, ?hyc1⟩) ⟨hH0.1, fun _ => hH0.2⟩ ?restc1
        case hyc1 => (intro w hAw; obtain ⟨q0, q1, q2⟩ := hAw; go_simp; try (with_reducible rfl))
        simp only [Act.put, List.setIfInBounds_toArray, List.set_cons_zero, List.set_cons_succ]
        refine lat_free (i := 1) (oi := { dst := some 40, op := Go.Op.nilCheck (Go.Operand.tmp 39), type := 0, pos := "disk.go:124", after := #[{ on := 0, ground := Go.Ground.data }], guard := none }) (v := ?vc2) rfl (by kernel_rfl) (by kernel_rfl) (by kernel_rfl) (by kernel_rfl) (fun _ _ _ h => h) (Or.inl ⟨by rfl, ?hyc2⟩) ⟨hH0.1, fun _ => hH0.2⟩ ?restc2
        case hyc2 => (intro w hAw; obtain ⟨q0, q1, q2⟩ := hAw; go_simp; try (with_reducible rfl))
        simp only [Act.put, List.setIfInBounds_toArray, List.set_cons_zero, List.set_cons_succ]
        refine lat_free (i := 2) (oi := { dst := some 41, op := Go.Op.fieldAddr 45 (Go.Operand.tmp 40) 0, type := 0, pos := "disk.go:124", after := #[{ on := 1, ground := Go.Ground.data }], guard := none }) (v := ?vc3) rfl (by kernel_rfl) (by kernel_rfl) (by kernel_rfl) (by kernel_rfl) (fun _ _ _ h => h) (Or.inl ⟨by rfl, ?hyc3⟩) ⟨hH0.1, fun _ => hH0.2⟩ ?restc3
        case hyc3 => (intro w hAw; obtain ⟨q0, q1, q2⟩ := hAw; go_simp; try (with_reducible rfl))
        simp only [Act.put, List.setIfInBounds_toArray, List.set_cons_zero, List.set_cons_succ]
        refine lat_free (i := 3) (oi := { dst := some 42, op := Go.Op.load 42 (Go.Operand.tmp 41), type := 42, pos := "disk.go:124", after := #[{ on := 2, ground := Go.Ground.data }], guard := none }) (v := ?vc4) rfl (by kernel_rfl) (by kernel_rfl) (by kernel_rfl) (by kernel_rfl) (fun _ _ _ h => h) (Or.inl ⟨by rfl, ?hyc4⟩) ⟨hH0.1, fun _ => hH0.2⟩ ?restc4
        case hyc4 => (intro w hAw; obtain ⟨q0, q1, q2⟩ := hAw; go_simp; try (with_reducible rfl))
        simp only [Act.put, List.setIfInBounds_toArray, List.set_cons_zero, List.set_cons_succ]
        refine lat_free (i := 4) (oi := { dst := some 43, op := Go.Op.fieldAddr 62 (Go.Operand.tmp 8) 0, type := 0, pos := "disk.go:124", after := #[], guard := none }) (v := ?vc5) rfl (by kernel_rfl) (by kernel_rfl) (by kernel_rfl) (by kernel_rfl) (fun _ _ _ h => h) (Or.inl ⟨by rfl, ?hyc5⟩) ⟨hH0.1, fun _ => hH0.2⟩ ?restc5
        case hyc5 => (intro w hAw; obtain ⟨q0, q1, q2⟩ := hAw; go_simp; try (with_reducible rfl))
        simp only [Act.put, List.setIfInBounds_toArray, List.set_cons_zero, List.set_cons_succ]
        refine lat_free (i := 5) (oi := { dst := some 44, op := Go.Op.load 3 (Go.Operand.tmp 43), type := 3, pos := "disk.go:124", after := #[{ on := 4, ground := Go.Ground.data }], guard := none }) (v := ?vc6) rfl (by kernel_rfl) (by kernel_rfl) (by kernel_rfl) (by kernel_rfl) (fun _ _ _ h => h) (Or.inl ⟨by rfl, ?hyc6⟩) ⟨hH0.1, fun _ => hH0.2⟩ ?restc6
        case hyc6 => (intro w hAw; obtain ⟨q0, q1, q2⟩ := hAw; go_simp; try (with_reducible rfl))
        simp only [Act.put, List.setIfInBounds_toArray, List.set_cons_zero, List.set_cons_succ]
        refine lat_free (i := 6) (oi := { dst := some 45, op := Go.Op.fieldAddr 62 (Go.Operand.tmp 8) 1, type := 0, pos := "disk.go:124", after := #[], guard := none }) (v := ?vc7) rfl (by kernel_rfl) (by kernel_rfl) (by kernel_rfl) (by kernel_rfl) (fun _ _ _ h => h) (Or.inl ⟨by rfl, ?hyc7⟩) ⟨hH0.1, fun _ => hH0.2⟩ ?restc7
        case hyc7 => (intro w hAw; obtain ⟨q0, q1, q2⟩ := hAw; go_simp; try (with_reducible rfl))
        simp only [Act.put, List.setIfInBounds_toArray, List.set_cons_zero, List.set_cons_succ]
        refine lat_free (i := 7) (oi := { dst := some 46, op := Go.Op.load 9 (Go.Operand.tmp 45), type := 9, pos := "disk.go:124", after := #[{ on := 6, ground := Go.Ground.data }], guard := none }) (v := ?vc8) rfl (by kernel_rfl) (by kernel_rfl) (by kernel_rfl) (by kernel_rfl) (fun _ _ _ h => h) (Or.inl ⟨by rfl, ?hyc8⟩) ⟨hH0.1, fun _ => hH0.2⟩ ?restc8
        case hyc8 => (intro w hAw; obtain ⟨q0, q1, q2⟩ := hAw; go_simp; try (with_reducible rfl))
        simp only [Act.put, List.setIfInBounds_toArray, List.set_cons_zero, List.set_cons_succ]
        refine lat_free (i := 8) (oi := { dst := some 47, op := Go.Op.move (Go.Operand.tmp 7), type := 3, pos := "disk.go:124", after := #[], guard := none }) (v := ?vc9) rfl (by kernel_rfl) (by kernel_rfl) (by kernel_rfl) (by kernel_rfl) (fun _ _ _ h => h) (Or.inl ⟨by rfl, ?hyc9⟩) ⟨hH0.1, fun _ => hH0.2⟩ ?restc9
        case hyc9 => (intro w hAw; obtain ⟨q0, q1, q2⟩ := hAw; go_simp; try (with_reducible rfl))
        simp only [Act.put, List.setIfInBounds_toArray, List.set_cons_zero, List.set_cons_succ]
        refine lat_free (i := 9) (oi := { dst := some 48, op := Go.Op.slice 9 (Go.Operand.tmp 46) none (some (Go.Operand.tmp 47)) none, type := 9, pos := "disk.go:124", after := #[{ on := 7, ground := Go.Ground.data }, { on := 8, ground := Go.Ground.data }], guard := none }) (v := ?vc10) rfl (by kernel_rfl) (by kernel_rfl) (by kernel_rfl) (by kernel_rfl) (fun _ _ _ h => h) (Or.inl ⟨by rfl, ?hyc10⟩) ⟨hH0.1, fun _ => hH0.2⟩ ?restc10
        case hyc10 => (intro w hAw; obtain ⟨q0, q1, q2⟩ := hAw; go_simp; try (with_reducible rfl))
        simp only [Act.put, List.setIfInBounds_toArray, List.set_cons_zero, List.set_cons_succ]
        refine lat_free (i := 10) (oi := { dst := some 49, op := Go.Op.move (Go.Operand.tmp 0), type := 26, pos := "disk.go:124", after := #[], guard := none }) (v := ?vc11) rfl (by kernel_rfl) (by kernel_rfl) (by kernel_rfl) (by kernel_rfl) (fun _ _ _ h => h) (Or.inl ⟨by rfl, ?hyc11⟩) ⟨hH0.1, fun _ => hH0.2⟩ ?restc11
        case hyc11 => (intro w hAw; obtain ⟨q0, q1, q2⟩ := hAw; go_simp; try (with_reducible rfl))
        simp only [Act.put, List.setIfInBounds_toArray, List.set_cons_zero, List.set_cons_succ]
        refine lat_free (i := 11) (oi := { dst := some 50, op := Go.Op.nilCheck (Go.Operand.tmp 49), type := 0, pos := "disk.go:124", after := #[{ on := 10, ground := Go.Ground.data }], guard := none }) (v := ?vc12) rfl (by kernel_rfl) (by kernel_rfl) (by kernel_rfl) (by kernel_rfl) (fun _ _ _ h => h) (Or.inl ⟨by rfl, ?hyc12⟩) ⟨hH0.1, fun _ => hH0.2⟩ ?restc12
        case hyc12 => (intro w hAw; obtain ⟨q0, q1, q2⟩ := hAw; go_simp; try (with_reducible rfl))
        simp only [Act.put, List.setIfInBounds_toArray, List.set_cons_zero, List.set_cons_succ]
        refine lat_free (i := 12) (oi := { dst := some 51, op := Go.Op.fieldAddr 45 (Go.Operand.tmp 50) 0, type := 0, pos := "disk.go:124", after := #[{ on := 11, ground := Go.Ground.data }], guard := none }) (v := ?vc13) rfl (by kernel_rfl) (by kernel_rfl) (by kernel_rfl) (by kernel_rfl) (fun _ _ _ h => h) (Or.inl ⟨by rfl, ?hyc13⟩) ⟨hH0.1, fun _ => hH0.2⟩ ?restc13
        case hyc13 => (intro w hAw; obtain ⟨q0, q1, q2⟩ := hAw; go_simp; try (with_reducible rfl))
        simp only [Act.put, List.setIfInBounds_toArray, List.set_cons_zero, List.set_cons_succ]
        refine lat_free (i := 13) (oi := { dst := some 52, op := Go.Op.load 42 (Go.Operand.tmp 51), type := 42, pos := "disk.go:124", after := #[{ on := 12, ground := Go.Ground.data }], guard := none }) (v := ?vc14) rfl (by kernel_rfl) (by kernel_rfl) (by kernel_rfl) (by kernel_rfl) (fun _ _ _ h => h) (Or.inl ⟨by rfl, ?hyc14⟩) ⟨hH0.1, fun _ => hH0.2⟩ ?restc14
        case hyc14 => (intro w hAw; obtain ⟨q0, q1, q2⟩ := hAw; go_simp; try (with_reducible rfl))
        simp only [Act.put, List.setIfInBounds_toArray, List.set_cons_zero, List.set_cons_succ]
        refine lat_free (i := 14) (oi := { dst := some 53, op := Go.Op.fieldAddr 62 (Go.Operand.tmp 8) 0, type := 0, pos := "disk.go:124", after := #[], guard := none }) (v := ?vc15) rfl (by kernel_rfl) (by kernel_rfl) (by kernel_rfl) (by kernel_rfl) (fun _ _ _ h => h) (Or.inl ⟨by rfl, ?hyc15⟩) ⟨hH0.1, fun _ => hH0.2⟩ ?restc15
        case hyc15 => (intro w hAw; obtain ⟨q0, q1, q2⟩ := hAw; go_simp; try (with_reducible rfl))
        simp only [Act.put, List.setIfInBounds_toArray, List.set_cons_zero, List.set_cons_succ]
        refine lat_free (i := 15) (oi := { dst := some 54, op := Go.Op.load 3 (Go.Operand.tmp 53), type := 3, pos := "disk.go:124", after := #[{ on := 14, ground := Go.Ground.data }], guard := none }) (v := ?vc16) rfl (by kernel_rfl) (by kernel_rfl) (by kernel_rfl) (by kernel_rfl) (fun _ _ _ h => h) (Or.inl ⟨by rfl, ?hyc16⟩) ⟨hH0.1, fun _ => hH0.2⟩ ?restc16
        case hyc16 => (intro w hAw; obtain ⟨q0, q1, q2⟩ := hAw; go_simp; try (with_reducible rfl))
        simp only [Act.put, List.setIfInBounds_toArray, List.set_cons_zero, List.set_cons_succ]
        refine lat_free (i := 16) (oi := { dst := some 55, op := Go.Op.indexAddr 42 (Go.Operand.tmp 52) (Go.Operand.tmp 54), type := 0, pos := "disk.go:124", after := #[{ on := 13, ground := Go.Ground.data }, { on := 15, ground := Go.Ground.data }], guard := none }) (v := ?vc17) rfl (by kernel_rfl) (by kernel_rfl) (by kernel_rfl) (by kernel_rfl) (fun _ _ _ h => h) (Or.inl ⟨by rfl, ?hyc17⟩) ⟨hH0.1, fun _ => hH0.2⟩ ?restc17
        case hyc17 => (intro w hAw; obtain ⟨q0, q1, q2⟩ := hAw; go_simp; try (with_reducible rfl))
        simp only [Act.put, List.setIfInBounds_toArray, List.set_cons_zero, List.set_cons_succ]
        refine lat_take (i := 17) (oi := { dst := some 56, op := Go.Op.load 9 (Go.Operand.tmp 55), type := 9, pos := "disk.go:124", after := #[{ on := 16, ground := Go.Ground.data }], guard := none }) (v := ?vc18) rfl (by kernel_rfl) (by kernel_rfl) (by kernel_rfl) (by kernel_rfl) (by kernel_rfl) (fun _ _ _ h => h) (Or.inl ⟨by rfl, ?hyc18⟩) hH0 ?restc18
        case hyc18 => (intro w hSw; have q3 := hSw; go_simp; try (with_reducible rfl))
        simp only [Act.put, List.setIfInBounds_toArray, List.set_cons_zero, List.set_cons_succ]
        refine lat_free (i := 18) (oi := { dst := some 57, op := Go.Op.move (Go.Operand.tmp 7), type := 3, pos := "disk.go:124", after := #[], guard := none }) (v := ?vc19) rfl (by kernel_rfl) (by kernel_rfl) (by kernel_rfl) (by kernel_rfl) (fun _ _ _ h => h) (Or.inl ⟨by rfl, ?hyc19⟩) ⟨hH0.1, fun _ => hH0.2⟩ ?restc19
        case hyc19 => (intro w hAw; obtain ⟨q0, q1, q2⟩ := hAw; go_simp; try (with_reducible rfl))
        simp only [Act.put, List.setIfInBounds_toArray, List.set_cons_zero, List.set_cons_succ]
        refine lat_free (i := 19) (oi := { dst := some 58, op := Go.Op.slice 9 (Go.Operand.tmp 56) (some (Go.Operand.tmp 57)) none none, type := 9, pos := "disk.go:124", after := #[{ on := 17, ground := Go.Ground.data }, { on := 18, ground := Go.Ground.data }], guard := none }) (v := ?vc20) rfl (by kernel_rfl) (by kernel_rfl) (by kernel_rfl) (by kernel_rfl) (fun _ _ _ h => h) (Or.inl ⟨by rfl, ?hyc20⟩) ⟨hH0.1, fun _ => hH0.2⟩ ?restc20
        case hyc20 => (intro w hAw; obtain ⟨q0, q1, q2⟩ := hAw; go_simp; try (with_reducible rfl))
        simp only [Act.put, List.setIfInBounds_toArray, List.set_cons_zero, List.set_cons_succ]
        refine lat_free (i := 20) (oi := { dst := some 59, op := Go.Op.binOp Go.BinOp.add 9 (Go.Operand.tmp 48) (Go.Operand.tmp 58) 9, type := 9, pos := "disk.go:124", after := #[{ on := 9, ground := Go.Ground.data }, { on := 19, ground := Go.Ground.data }], guard := none }) (v := ?vc21) rfl (by kernel_rfl) (by kernel_rfl) (by kernel_rfl) (by kernel_rfl) (fun _ _ _ h => h) (Or.inl ⟨by rfl, ?hyc21⟩) ⟨hH0.1, fun _ => hH0.2⟩ ?restc21
        case hyc21 => (intro w hAw; obtain ⟨q0, q1, q2⟩ := hAw; go_simp; try (with_reducible rfl))
        simp only [Act.put, List.setIfInBounds_toArray, List.set_cons_zero, List.set_cons_succ]
        refine lat_free (i := 21) (oi := { dst := some 60, op := Go.Op.indexAddr 42 (Go.Operand.tmp 42) (Go.Operand.tmp 44), type := 0, pos := "disk.go:124", after := #[{ on := 3, ground := Go.Ground.data }, { on := 5, ground := Go.Ground.data }, { on := 0, ground := Go.Ground.phase }, { on := 1, ground := Go.Ground.phase }, { on := 2, ground := Go.Ground.phase }, { on := 3, ground := Go.Ground.phase }, { on := 4, ground := Go.Ground.phase }, { on := 5, ground := Go.Ground.phase }, { on := 6, ground := Go.Ground.phase }, { on := 7, ground := Go.Ground.phase }, { on := 8, ground := Go.Ground.phase }, { on := 9, ground := Go.Ground.phase }, { on := 10, ground := Go.Ground.phase }, { on := 11, ground := Go.Ground.phase }, { on := 12, ground := Go.Ground.phase }, { on := 13, ground := Go.Ground.phase }, { on := 14, ground := Go.Ground.phase }, { on := 15, ground := Go.Ground.phase }, { on := 16, ground := Go.Ground.phase }, { on := 17, ground := Go.Ground.phase }, { on := 18, ground := Go.Ground.phase }, { on := 19, ground := Go.Ground.phase }, { on := 20, ground := Go.Ground.phase }], guard := none }) (v := ?vc22) rfl (by kernel_rfl) (by kernel_rfl) (by kernel_rfl) (by kernel_rfl) (fun _ _ _ h => h) (Or.inl ⟨by rfl, ?hyc22⟩) ⟨hH0.1, fun _ => hH0.2⟩ ?restc22
        case hyc22 => (intro w hAw; obtain ⟨q0, q1, q2⟩ := hAw; go_simp; try (with_reducible rfl))
        simp only [Act.put, List.setIfInBounds_toArray, List.set_cons_zero, List.set_cons_succ]
        refine lat_one (i := 22) (by kernel_rfl) ?_
        refine lat_write (o := { dst := none, op := Go.Op.store 9 (Go.Operand.tmp 60) (Go.Operand.tmp 59), type := 0, pos := "disk.go:124", after := #[{ on := 21, ground := Go.Ground.data }, { on := 20, ground := Go.Ground.data }, { on := 0, ground := Go.Ground.phase }, { on := 1, ground := Go.Ground.phase }, { on := 2, ground := Go.Ground.phase }, { on := 3, ground := Go.Ground.phase }, { on := 4, ground := Go.Ground.phase }, { on := 5, ground := Go.Ground.phase }, { on := 6, ground := Go.Ground.phase }, { on := 7, ground := Go.Ground.phase }, { on := 8, ground := Go.Ground.phase }, { on := 9, ground := Go.Ground.phase }, { on := 10, ground := Go.Ground.phase }, { on := 11, ground := Go.Ground.phase }, { on := 12, ground := Go.Ground.phase }, { on := 13, ground := Go.Ground.phase }, { on := 14, ground := Go.Ground.phase }, { on := 15, ground := Go.Ground.phase }, { on := 16, ground := Go.Ground.phase }, { on := 17, ground := Go.Ground.phase }, { on := 18, ground := Go.Ground.phase }, { on := 19, ground := Go.Ground.phase }, { on := 20, ground := Go.Ground.phase }], guard := none }) rfl (by kernel_rfl) (fun K hK => ?_)
        have t0 : W.cell? ⟨g1, x.n, none⟩ = some (.string old) := hpc.out
        have t1 : W.frozen? ⟨g1, x.n, none⟩ = false := hpz.out
        go_simp
        refine hK.out _ _ (hsame.out) (fun hHc23 => ?_)
        clear hK K
        refine lat_done (by kernel_rfl) ?_ _
        go_wp2_with (fail)
        refine ⟨⟨k + 1, n, L.set x.n (tear old x.b c), hlt, by simp [hw], ⟨rfl, Nat.le_succ_of_le hnk⟩, ?_, ?_, ?_⟩, ?_⟩
        · exact hput.out
        · exact (HB.out.trans ((Grew.but hG.out).trans (Grew.but (Grew.refl _).drew))).set (b := g1) (.inr (.inl rfl)) x.n none _
        · exact (by have := HE.out; rw [if_neg hpos] at this; exact this)
        · exact rmeas _ _ hlt hw
    · have hi : ¬ (k : Int) < (R.float.length : Int) := by omega
      have hP := HP.out
      have hk2 : R.float.drop k = [] := List.drop_of_length_le (by omega)
      have e := HS.out
      rw [hk2, failL] at e
      obtain rfl : r = ((n : Int), L) := e.symm
      have z1 := hP.z 1
      have z2 := hP.z 2
      have z3 := hP.z 3
      have y2 := hP.k2
      have y3 := hP.k3
      dsimp only at y2 y3
      have hE := (hP.clear.die false).aft (l := -1) ⟨by decide, by decide⟩
      dsimp only at hE
      replace hE : Hid _ := hE
      clear hP
      go_wp2_with (fail)
      go_ret
      refine ⟨rfl, none, 0, hE.out, ?_, fun i e => by cases e⟩
      exact ((HB.out.set (b := b) (.inl rfl) 1 none _).set (b := b) (.inl rfl) 2 none _).set (b := b) (.inl rfl) 3 none _
end
end Go.Proofs.Ytedhgejkobdihaa
