/-
  The document's own platter: its Settle.
-/
import Derived.Test.YtedhgejkobdihaaTRefStore
import Derived.Test.YtedhgejkobdihaaSLate
namespace Go.Proofs.Ytedhgejkobdihaa
open Go Go.RowKit

theorem rmeas (m k : Nat) (h : k < m) (e : wrap64 ((k : Int) + 1) = (k : Int) + 1) : m - (intOf (Value.int IntKind.i64 (wrap64 ((k : Int) + 1)))).toNat < m - (intOf (Value.int IntKind.i64 (k : Int))).toNat := by
  rw [e]
  show m - ((k : Int) + 1).toNat < m - (k : Int).toNat
  omega
section
variable {w : World} {base b c1 c2 : Nat} {a1 a2 : Option Addr} {R : Rp}
theorem RAt.putLast {g1 : Nat} (h : RAt w base b (some ⟨g1, 0, none⟩) c1 a2 c2 R) {k : Nat} (_hk : k < R.last.length) {y : ByteArray} (hy : y.size = 128) : RAt (w.setCell ⟨g1, k, none⟩ (.string y)) base b (some ⟨g1, 0, none⟩) c1 a2 c2 { R with last := R.last.set k y } := by
  have G : But (fun i => i = g1) w (w.setCell ⟨g1, k, none⟩ (.string y)) := (But.refl (fun i => i = g1) w).set (b := g1) rfl k none _
  have hb := (Array.getElem?_eq_some_iff.1 h.blk).1
  have el : (R.last.set k y).length = R.last.length := List.length_set
  have hs : strsV (R.last.set k y) = (strsV R.last).set k (.string y) := by simp [strsV, List.map_set]
  refine ⟨h.lb, ?_, ?_, row_but h.r2 G ?_, ⟨by show (R.last.set k y).length ≤ 200; rw [el]; exact h.ok.top, ?_, ?_, h.ok.many, h.ok.after⟩⟩
  · show _ = some (Obj.cells #[.slice _ (R.last.set k y).length _, _, _, _] _ _)
    rw [el]
    exact (G.block b hb (fun e => h.b1 (i := g1) rfl e.symm)).trans h.blk
  · show World.ownsRow _ _ _ _ (.slice _ (R.last.set k y).length _) (R.last.set k y).length _
    rw [el, hs]
    exact (h.r1.stored k (.string y)).1
  · rintro i q rfl; exact (h.b2 ((own_any _ _ _).symm.trans q)).2 rfl
  · intro z hz
    rcases List.mem_or_eq_of_mem_set hz with hz | rfl
    · exact h.ok.last z hz
    · exact hy
  · intro z hz
    show z.n < (R.last.set k y).length ∧ _
    rw [el]; exact h.ok.float z hz
theorem RAt.clear (h : RAt w base b a1 c1 a2 c2 R) : RAt (w.setCell ⟨b, 1, none⟩ (.slice none 0 0)) base b a1 c1 none 0 { R with float := [] } :=
  h.set1 (F := []) (a4 := none) (c4 := 0) (But.refl _ _) (World.ownsRow_nil _ _ _ _) ⟨h.ok.top, h.ok.last, by simp, by simp, h.ok.after⟩
set_option maxRecDepth 10000 in
set_option maxHeartbeats 4000000 in
theorem rsettle_any (h : RAt w base b a1 c1 a2 c2 R) : Calls Try.prog 19 #[.pointer (some ⟨b, 0, none⟩)] w fun e w' => e = .returned (.int .i64 (settleQ R).1) ∧ RStored w base b a1 c1 a2 (settleQ R).2 w' := by
  have k2 := h.k2
  go_enter Try.func19, Try.ntmps19
  by_cases hd : R.dead = true
  · have e : settleQ R = (7, R) := by unfold settleQ; rw [if_pos hd]
    rw [e]
    rw [hd] at k2
    go_wp2
    go_ret
    exact ⟨rfl, a2, c2, h, But.refl _ _, fun i e => .inl e⟩
  have hd' : R.dead = false := by simpa using hd
  have e : settleQ R = (0, { R with last := settleL R.float R.last, float := [] }) := by unfold settleQ; rw [if_neg hd]
  rw [e]
  clear e
  rw [hd'] at k2
  go_wp2
  go_loopw [3] (fun i wr => ∃ (k : Nat) (L : List ByteArray), k ≤ R.float.length ∧ i = .int .i64 k ∧ RAt wr base b a1 c1 a2 c2 ⟨L, R.float, R.dead, R.after⟩ ∧ But (rfoot b a1 a2) w wr ∧ settleL (R.float.drop k) L = settleL R.float R.last) (fun i _ => R.float.length - (intOf i).toNat)
  case atStart => exact ⟨0, R.last, by omega, rfl, h, But.refl _ _, rfl⟩
  case round =>
    obtain ⟨k, L, hk, rfl, hP, hB, hs⟩ := hrel
    have HS : Hid (settleL (R.float.drop k) L = settleL R.float R.last) := hs
    have HB : Hid (But (rfoot b a1 a2) w wr) := hB
    have HP : Hid (RAt wr base b a1 c1 a2 c2 ⟨L, R.float, R.dead, R.after⟩) := hP
    clear hs hB hP k2
    have k0 := HP.out.k0
    have k1 := HP.out.k1
    dsimp only at k0 k1
    have hmany := h.ok.many
    by_cases hlt : k < R.float.length
    · have hi : (k : Int) < (R.float.length : Int) := by omega
      obtain ⟨x, hx⟩ : ∃ x, R.float[k]? = some x := ⟨_, List.getElem?_eq_getElem hlt⟩
      obtain ⟨hx1, hx2⟩ := HP.out.ok.float x (List.mem_of_getElem? hx)
      obtain ⟨g2, rfl, d0, d1⟩ := HP.out.st (R := ⟨L, R.float, R.dead, R.after⟩) hx
      obtain ⟨g1, rfl, hpc0⟩ := HP.out.page hx1
      have hpc : Hid (wr.cell? ⟨g1, x.n, none⟩ = some (.string (pg L x.n))) := hpc0
      have hpz : Hid (wr.frozen? ⟨g1, x.n, none⟩ = false) := HP.out.r1.frozenAt _
      have hput : Hid (RAt (wr.drew.setCell ⟨g1, x.n, none⟩ (.string x.b)) base b (some ⟨g1, 0, none⟩) c1 (some ⟨g2, 0, none⟩) c2 ⟨L.set x.n x.b, R.float, R.dead, R.after⟩) := RAt.putLast (HP.out.but (S := fun _ => False) (Grew.but (Grew.refl _).drew) (fun _ _ e => e)) hx1 hx2
      have hg1 : g1 ≠ b := HP.out.b1 rfl
      have hg2 : g2 ≠ b ∧ g1 ≠ g2 := ⟨(HP.out.b2 rfl).1, fun e => (HP.out.b2 (i := g2) rfl).2 (by rw [e]; rfl)⟩
      obtain ⟨l, hl⟩ : ∃ l, l = L.length := ⟨_, rfl⟩
      obtain ⟨m, hm⟩ : ∃ m, m = R.float.length := ⟨_, rfl⟩
      have hxi : (x.n : Int) < l := by rw [hl]; show (x.n : Int) < L.length; have : x.n < L.length := hx1; omega
      rw [← hl] at k0
      rw [← hm] at k1 hi hlt
      have hsame : Hid ((wr.drew.setCell ⟨g1, x.n, none⟩ (.string x.b)).cell? ⟨b, 0, none⟩ = some (.slice (some ⟨g1, 0, none⟩) l c1) ∧ (wr.drew.setCell ⟨g1, x.n, none⟩ (.string x.b)).cell? ⟨b, 1, none⟩ = some (.slice (some ⟨g2, 0, none⟩) m c2) ∧ (wr.drew.setCell ⟨g1, x.n, none⟩ (.string x.b)).cell? ⟨g2, k * 2, none⟩ = some (.int .i64 (x.n : Int)) ∧ (wr.drew.setCell ⟨g1, x.n, none⟩ (.string x.b)).cell? ⟨g2, k * 2 + 1, none⟩ = some (.string x.b)) := by
        refine ⟨?_, ?_, ?_, ?_⟩
        · rw [World.cell?_setCell_other _ _ _ _ (by intro e; exact hg1 (congrArg Addr.block e))]; exact k0
        · rw [World.cell?_setCell_other _ _ _ _ (by intro e; exact hg1 (congrArg Addr.block e))]; exact k1
        · rw [World.cell?_setCell_other _ _ _ _ (by intro e; exact hg2.2 (congrArg Addr.block e))]; exact d0
        · rw [World.cell?_setCell_other _ _ _ _ (by intro e; exact hg2.2 (congrArg Addr.block e))]; exact d1
      have hki : (k : Int) < m := hi
      have hw : wrap64 ((k : Int) + 1) = k + 1 := IntWalk.wrap64_in _ ⟨by omega, by omega⟩
      replace hx : Hid (R.float[k]? = some x) := hx
      replace hm : Hid (m = R.float.length) := hm
      replace hl : Hid (l = L.length) := hl
      clear hpc0 hmany
      have hlm : Hid (k + 1 ≤ R.float.length) := by rw [← hm.out]; exact hlt
      rw [← hm.out]
      go_upto_region 6 with (fail)
      refine lat_region (A := (fun w' => w'.cell? ⟨b, 0, none⟩ = some (.slice (some ⟨g1, 0, none⟩) l c1) ∧ w'.cell? ⟨b, 1, none⟩ = some (.slice (some ⟨g2, 0, none⟩) m c2) ∧ w'.cell? ⟨g2, k * 2, none⟩ = some (.int .i64 (x.n : Int)) ∧ w'.cell? ⟨g2, k * 2 + 1, none⟩ = some (.string x.b))) (S := (fun _ => True)) [] (by kernel_rfl) ?_ (fun hH0 => ?_)
      · exact ⟨⟨k0, k1, d0, d1⟩, trivial⟩
      refine lat_free (i := 0) (oi := { dst := some 17, op := Go.Op.move (Go.Operand.tmp 0), type := 26, pos := "disk.go:99", after := #[], guard := none }) (v := ?va1) rfl (by kernel_rfl) (by kernel_rfl) (by kernel_rfl) (by kernel_rfl) (fun _ _ _ h => h) (Or.inl ⟨by rfl, ?hya1⟩) ⟨hH0.1, fun _ => hH0.2⟩ ?resta1
      case hya1 => (intro w hAw; obtain ⟨q0, q1, q2, q3⟩ := hAw; go_simp; try (with_reducible rfl))
      simp only [Act.put, List.setIfInBounds_toArray, List.set_cons_zero, List.set_cons_succ]
      refine lat_free (i := 1) (oi := { dst := some 18, op := Go.Op.nilCheck (Go.Operand.tmp 17), type := 0, pos := "disk.go:99", after := #[{ on := 0, ground := Go.Ground.data }], guard := none }) (v := ?va2) rfl (by kernel_rfl) (by kernel_rfl) (by kernel_rfl) (by kernel_rfl) (fun _ _ _ h => h) (Or.inl ⟨by rfl, ?hya2⟩) ⟨hH0.1, fun _ => hH0.2⟩ ?resta2
      case hya2 => (intro w hAw; obtain ⟨q0, q1, q2, q3⟩ := hAw; go_simp; try (with_reducible rfl))
      simp only [Act.put, List.setIfInBounds_toArray, List.set_cons_zero, List.set_cons_succ]
      refine lat_free (i := 2) (oi := { dst := some 19, op := Go.Op.fieldAddr 45 (Go.Operand.tmp 18) 0, type := 0, pos := "disk.go:99", after := #[{ on := 1, ground := Go.Ground.data }], guard := none }) (v := ?va3) rfl (by kernel_rfl) (by kernel_rfl) (by kernel_rfl) (by kernel_rfl) (fun _ _ _ h => h) (Or.inl ⟨by rfl, ?hya3⟩) ⟨hH0.1, fun _ => hH0.2⟩ ?resta3
      case hya3 => (intro w hAw; obtain ⟨q0, q1, q2, q3⟩ := hAw; go_simp; try (with_reducible rfl))
      simp only [Act.put, List.setIfInBounds_toArray, List.set_cons_zero, List.set_cons_succ]
      refine lat_free (i := 3) (oi := { dst := some 20, op := Go.Op.load 42 (Go.Operand.tmp 19), type := 42, pos := "disk.go:99", after := #[{ on := 2, ground := Go.Ground.data }], guard := none }) (v := ?va4) rfl (by kernel_rfl) (by kernel_rfl) (by kernel_rfl) (by kernel_rfl) (fun _ _ _ h => h) (Or.inl ⟨by rfl, ?hya4⟩) ⟨hH0.1, fun _ => hH0.2⟩ ?resta4
      case hya4 => (intro w hAw; obtain ⟨q0, q1, q2, q3⟩ := hAw; go_simp; try (with_reducible rfl))
      simp only [Act.put, List.setIfInBounds_toArray, List.set_cons_zero, List.set_cons_succ]
      refine lat_free (i := 4) (oi := { dst := some 21, op := Go.Op.move (Go.Operand.tmp 0), type := 26, pos := "disk.go:99", after := #[], guard := none }) (v := ?va5) rfl (by kernel_rfl) (by kernel_rfl) (by kernel_rfl) (by kernel_rfl) (fun _ _ _ h => h) (Or.inl ⟨by rfl, ?hya5⟩) ⟨hH0.1, fun _ => hH0.2⟩ ?resta5
      case hya5 => (intro w hAw; obtain ⟨q0, q1, q2, q3⟩ := hAw; go_simp; try (with_reducible rfl))
      simp only [Act.put, List.setIfInBounds_toArray, List.set_cons_zero, List.set_cons_succ]
      refine lat_free (i := 5) (oi := { dst := some 22, op := Go.Op.nilCheck (Go.Operand.tmp 21), type := 0, pos := "disk.go:99", after := #[{ on := 4, ground := Go.Ground.data }], guard := none }) (v := ?va6) rfl (by kernel_rfl) (by kernel_rfl) (by kernel_rfl) (by kernel_rfl) (fun _ _ _ h => h) (Or.inl ⟨by rfl, ?hya6⟩) ⟨hH0.1, fun _ => hH0.2⟩ ?resta6
      case hya6 => (intro w hAw; obtain ⟨q0, q1, q2, q3⟩ := hAw; go_simp; try (with_reducible rfl))
      simp only [Act.put, List.setIfInBounds_toArray, List.set_cons_zero, List.set_cons_succ]
      refine lat_free (i := 6) (oi := { dst := some 23, op := Go.Op.fieldAddr 45 (Go.Operand.tmp 22) 1, type := 0, pos := "disk.go:99", after := #[{ on := 5, ground := Go.Ground.data }], guard := none }) (v := ?va7) rfl (by kernel_rfl) (by kernel_rfl) (by kernel_rfl) (by kernel_rfl) (fun _ _ _ h => h) (Or.inl ⟨by rfl, ?hya7⟩) ⟨hH0.1, fun _ => hH0.2⟩ ?resta7
      case hya7 => (intro w hAw; obtain ⟨q0, q1, q2, q3⟩ := hAw; go_simp; try (with_reducible rfl))
      simp only [Act.put, List.setIfInBounds_toArray, List.set_cons_zero, List.set_cons_succ]
      refine lat_free (i := 7) (oi := { dst := some 24, op := Go.Op.load 43 (Go.Operand.tmp 23), type := 43, pos := "disk.go:99", after := #[{ on := 6, ground := Go.Ground.data }], guard := none }) (v := ?va8) rfl (by kernel_rfl) (by kernel_rfl) (by kernel_rfl) (by kernel_rfl) (fun _ _ _ h => h) (Or.inl ⟨by rfl, ?hya8⟩) ⟨hH0.1, fun _ => hH0.2⟩ ?resta8
      case hya8 => (intro w hAw; obtain ⟨q0, q1, q2, q3⟩ := hAw; go_simp; try (with_reducible rfl))
      simp only [Act.put, List.setIfInBounds_toArray, List.set_cons_zero, List.set_cons_succ]
      refine lat_free (i := 8) (oi := { dst := some 25, op := Go.Op.move (Go.Operand.tmp 3), type := 3, pos := "disk.go:99", after := #[], guard := none }) (v := ?va9) rfl (by kernel_rfl) (by kernel_rfl) (by kernel_rfl) (by kernel_rfl) (fun _ _ _ h => h) (Or.inl ⟨by rfl, ?hya9⟩) ⟨hH0.1, fun _ => hH0.2⟩ ?resta9
      case hya9 => (intro w hAw; obtain ⟨q0, q1, q2, q3⟩ := hAw; go_simp; try (with_reducible rfl))
      simp only [Act.put, List.setIfInBounds_toArray, List.set_cons_zero, List.set_cons_succ]
      refine lat_free (i := 9) (oi := { dst := some 26, op := Go.Op.indexAddr 43 (Go.Operand.tmp 24) (Go.Operand.tmp 25), type := 0, pos := "disk.go:99", after := #[{ on := 7, ground := Go.Ground.data }, { on := 8, ground := Go.Ground.data }], guard := none }) (v := ?va10) rfl (by kernel_rfl) (by kernel_rfl) (by kernel_rfl) (by kernel_rfl) (fun _ _ _ h => h) (Or.inl ⟨by rfl, ?hya10⟩) ⟨hH0.1, fun _ => hH0.2⟩ ?resta10
      case hya10 => (intro w hAw; obtain ⟨q0, q1, q2, q3⟩ := hAw; go_simp; try (with_reducible rfl))
      simp only [Act.put, List.setIfInBounds_toArray, List.set_cons_zero, List.set_cons_succ]
      refine lat_free (i := 10) (oi := { dst := some 27, op := Go.Op.fieldAddr 62 (Go.Operand.tmp 26) 0, type := 0, pos := "disk.go:99", after := #[{ on := 9, ground := Go.Ground.data }], guard := none }) (v := ?va11) rfl (by kernel_rfl) (by kernel_rfl) (by kernel_rfl) (by kernel_rfl) (fun _ _ _ h => h) (Or.inl ⟨by rfl, ?hya11⟩) ⟨hH0.1, fun _ => hH0.2⟩ ?resta11
      case hya11 => (intro w hAw; obtain ⟨q0, q1, q2, q3⟩ := hAw; go_simp; try (with_reducible rfl))
      simp only [Act.put, List.setIfInBounds_toArray, List.set_cons_zero, List.set_cons_succ]
      refine lat_free (i := 11) (oi := { dst := some 28, op := Go.Op.load 3 (Go.Operand.tmp 27), type := 3, pos := "disk.go:99", after := #[{ on := 10, ground := Go.Ground.data }], guard := none }) (v := ?va12) rfl (by kernel_rfl) (by kernel_rfl) (by kernel_rfl) (by kernel_rfl) (fun _ _ _ h => h) (Or.inl ⟨by rfl, ?hya12⟩) ⟨hH0.1, fun _ => hH0.2⟩ ?resta12
      case hya12 => (intro w hAw; obtain ⟨q0, q1, q2, q3⟩ := hAw; go_simp; try (with_reducible rfl))
      simp only [Act.put, List.setIfInBounds_toArray, List.set_cons_zero, List.set_cons_succ]
      refine lat_free (i := 12) (oi := { dst := some 29, op := Go.Op.move (Go.Operand.tmp 0), type := 26, pos := "disk.go:99", after := #[], guard := none }) (v := ?va13) rfl (by kernel_rfl) (by kernel_rfl) (by kernel_rfl) (by kernel_rfl) (fun _ _ _ h => h) (Or.inl ⟨by rfl, ?hya13⟩) ⟨hH0.1, fun _ => hH0.2⟩ ?resta13
      case hya13 => (intro w hAw; obtain ⟨q0, q1, q2, q3⟩ := hAw; go_simp; try (with_reducible rfl))
      simp only [Act.put, List.setIfInBounds_toArray, List.set_cons_zero, List.set_cons_succ]
      refine lat_free (i := 13) (oi := { dst := some 30, op := Go.Op.nilCheck (Go.Operand.tmp 29), type := 0, pos := "disk.go:99", after := #[{ on := 12, ground := Go.Ground.data }], guard := none }) (v := ?va14) rfl (by kernel_rfl) (by kernel_rfl) (by kernel_rfl) (by kernel_rfl) (fun _ _ _ h => h) (Or.inl ⟨by rfl, ?hya14⟩) ⟨hH0.1, fun _ => hH0.2⟩ ?resta14
      case hya14 => (intro w hAw; obtain ⟨q0, q1, q2, q3⟩ := hAw; go_simp; try (with_reducible rfl))
      simp only [Act.put, List.setIfInBounds_toArray, List.set_cons_zero, List.set_cons_succ]
      refine lat_free (i := 14) (oi := { dst := some 31, op := Go.Op.fieldAddr 45 (Go.Operand.tmp 30) 1, type := 0, pos := "disk.go:99", after := #[{ on := 13, ground := Go.Ground.data }], guard := none }) (v := ?va15) rfl (by kernel_rfl) (by kernel_rfl) (by kernel_rfl) (by kernel_rfl) (fun _ _ _ h => h) (Or.inl ⟨by rfl, ?hya15⟩) ⟨hH0.1, fun _ => hH0.2⟩ ?resta15
      case hya15 => (intro w hAw; obtain ⟨q0, q1, q2, q3⟩ := hAw; go_simp; try (with_reducible rfl))
      simp only [Act.put, List.setIfInBounds_toArray, List.set_cons_zero, List.set_cons_succ]
      refine lat_free (i := 15) (oi := { dst := some 32, op := Go.Op.load 43 (Go.Operand.tmp 31), type := 43, pos := "disk.go:99", after := #[{ on := 14, ground := Go.Ground.data }], guard := none }) (v := ?va16) rfl (by kernel_rfl) (by kernel_rfl) (by kernel_rfl) (by kernel_rfl) (fun _ _ _ h => h) (Or.inl ⟨by rfl, ?hya16⟩) ⟨hH0.1, fun _ => hH0.2⟩ ?resta16
      case hya16 => (intro w hAw; obtain ⟨q0, q1, q2, q3⟩ := hAw; go_simp; try (with_reducible rfl))
      simp only [Act.put, List.setIfInBounds_toArray, List.set_cons_zero, List.set_cons_succ]
      refine lat_free (i := 16) (oi := { dst := some 33, op := Go.Op.move (Go.Operand.tmp 3), type := 3, pos := "disk.go:99", after := #[], guard := none }) (v := ?va17) rfl (by kernel_rfl) (by kernel_rfl) (by kernel_rfl) (by kernel_rfl) (fun _ _ _ h => h) (Or.inl ⟨by rfl, ?hya17⟩) ⟨hH0.1, fun _ => hH0.2⟩ ?resta17
      case hya17 => (intro w hAw; obtain ⟨q0, q1, q2, q3⟩ := hAw; go_simp; try (with_reducible rfl))
      simp only [Act.put, List.setIfInBounds_toArray, List.set_cons_zero, List.set_cons_succ]
      refine lat_free (i := 17) (oi := { dst := some 34, op := Go.Op.indexAddr 43 (Go.Operand.tmp 32) (Go.Operand.tmp 33), type := 0, pos := "disk.go:99", after := #[{ on := 15, ground := Go.Ground.data }, { on := 16, ground := Go.Ground.data }], guard := none }) (v := ?va18) rfl (by kernel_rfl) (by kernel_rfl) (by kernel_rfl) (by kernel_rfl) (fun _ _ _ h => h) (Or.inl ⟨by rfl, ?hya18⟩) ⟨hH0.1, fun _ => hH0.2⟩ ?resta18
      case hya18 => (intro w hAw; obtain ⟨q0, q1, q2, q3⟩ := hAw; go_simp; try (with_reducible rfl))
      simp only [Act.put, List.setIfInBounds_toArray, List.set_cons_zero, List.set_cons_succ]
      refine lat_free (i := 18) (oi := { dst := some 35, op := Go.Op.fieldAddr 62 (Go.Operand.tmp 34) 1, type := 0, pos := "disk.go:99", after := #[{ on := 17, ground := Go.Ground.data }], guard := none }) (v := ?va19) rfl (by kernel_rfl) (by kernel_rfl) (by kernel_rfl) (by kernel_rfl) (fun _ _ _ h => h) (Or.inl ⟨by rfl, ?hya19⟩) ⟨hH0.1, fun _ => hH0.2⟩ ?resta19
      case hya19 => (intro w hAw; obtain ⟨q0, q1, q2, q3⟩ := hAw; go_simp; try (with_reducible rfl))
      simp only [Act.put, List.setIfInBounds_toArray, List.set_cons_zero, List.set_cons_succ]
      refine lat_free (i := 19) (oi := { dst := some 36, op := Go.Op.load 9 (Go.Operand.tmp 35), type := 9, pos := "disk.go:99", after := #[{ on := 18, ground := Go.Ground.data }], guard := none }) (v := ?va20) rfl (by kernel_rfl) (by kernel_rfl) (by kernel_rfl) (by kernel_rfl) (fun _ _ _ h => h) (Or.inl ⟨by rfl, ?hya20⟩) ⟨hH0.1, fun _ => hH0.2⟩ ?resta20
      case hya20 => (intro w hAw; obtain ⟨q0, q1, q2, q3⟩ := hAw; go_simp; try (with_reducible rfl))
      simp only [Act.put, List.setIfInBounds_toArray, List.set_cons_zero, List.set_cons_succ]
      refine lat_free (i := 20) (oi := { dst := some 37, op := Go.Op.indexAddr 42 (Go.Operand.tmp 20) (Go.Operand.tmp 28), type := 0, pos := "disk.go:99", after := #[{ on := 3, ground := Go.Ground.data }, { on := 11, ground := Go.Ground.data }, { on := 0, ground := Go.Ground.phase }, { on := 1, ground := Go.Ground.phase }, { on := 2, ground := Go.Ground.phase }, { on := 3, ground := Go.Ground.phase }, { on := 4, ground := Go.Ground.phase }, { on := 5, ground := Go.Ground.phase }, { on := 6, ground := Go.Ground.phase }, { on := 7, ground := Go.Ground.phase }, { on := 8, ground := Go.Ground.phase }, { on := 9, ground := Go.Ground.phase }, { on := 10, ground := Go.Ground.phase }, { on := 11, ground := Go.Ground.phase }, { on := 12, ground := Go.Ground.phase }, { on := 13, ground := Go.Ground.phase }, { on := 14, ground := Go.Ground.phase }, { on := 15, ground := Go.Ground.phase }, { on := 16, ground := Go.Ground.phase }, { on := 17, ground := Go.Ground.phase }, { on := 18, ground := Go.Ground.phase }, { on := 19, ground := Go.Ground.phase }], guard := none }) (v := ?va21) rfl (by kernel_rfl) (by kernel_rfl) (by kernel_rfl) (by kernel_rfl) (fun _ _ _ h => h) (Or.inl ⟨by rfl, ?hya21⟩) ⟨hH0.1, fun _ => hH0.2⟩ ?resta21
      case hya21 => (intro w hAw; obtain ⟨q0, q1, q2, q3⟩ := hAw; go_simp; try (with_reducible rfl))
      simp only [Act.put, List.setIfInBounds_toArray, List.set_cons_zero, List.set_cons_succ]
      refine lat_one (i := 21) (by kernel_rfl) ?_
      refine lat_run (o := { dst := none, op := Go.Op.store 9 (Go.Operand.tmp 37) (Go.Operand.tmp 36), type := 0, pos := "disk.go:99", after := #[{ on := 20, ground := Go.Ground.data }, { on := 19, ground := Go.Ground.data }, { on := 0, ground := Go.Ground.phase }, { on := 1, ground := Go.Ground.phase }, { on := 2, ground := Go.Ground.phase }, { on := 3, ground := Go.Ground.phase }, { on := 4, ground := Go.Ground.phase }, { on := 5, ground := Go.Ground.phase }, { on := 6, ground := Go.Ground.phase }, { on := 7, ground := Go.Ground.phase }, { on := 8, ground := Go.Ground.phase }, { on := 9, ground := Go.Ground.phase }, { on := 10, ground := Go.Ground.phase }, { on := 11, ground := Go.Ground.phase }, { on := 12, ground := Go.Ground.phase }, { on := 13, ground := Go.Ground.phase }, { on := 14, ground := Go.Ground.phase }, { on := 15, ground := Go.Ground.phase }, { on := 16, ground := Go.Ground.phase }, { on := 17, ground := Go.Ground.phase }, { on := 18, ground := Go.Ground.phase }, { on := 19, ground := Go.Ground.phase }], guard := none }) rfl (fun K hK => ?_)
      have t0 : wr.cell? ⟨g1, x.n, none⟩ = some (.string (pg L x.n)) := hpc.out
      have t1 : wr.frozen? ⟨g1, x.n, none⟩ = false := hpz.out
      go_simp
      refine hK.out _ _ (⟨hsame.out, trivial⟩) (fun hHa22 => ?_)
      clear hK K
      refine lat_done (by kernel_rfl) ?_ _
      go_wp2_with (fail)
      refine ⟨⟨k + 1, L.set x.n x.b, hlt, by simp [hw], ?_, ?_, ?_⟩, ?_⟩
      · exact hput.out
      · exact (HB.out.trans (Grew.but (Grew.refl _).drew)).set (b := g1) (.inr (.inl rfl)) x.n none _
      · exact (settleL_drop R.float L k x hx.out).symm.trans HS.out
      · exact rmeas _ _ hlt hw
    · have hi : ¬ (k : Int) < (R.float.length : Int) := by omega
      have hP := HP.out
      have z1 := hP.z 1
      have hk2 : R.float.drop k = [] := List.drop_of_length_le (by omega)
      have e := HS.out
      rw [hk2, settleL] at e
      replace e : Hid (L = settleL R.float R.last) := e
      have hC := hP.clear
      dsimp only at hC
      rw [hd', e.out] at hC
      replace hC : Hid (RAt (wr.setCell ⟨b, 1, none⟩ (.slice none 0 0)) base b a1 c1 none 0 ⟨settleL R.float R.last, [], false, R.after⟩) := hC
      go_wp2_with (fail)
      go_ret
      exact ⟨rfl, none, 0, hC.out, HB.out.set (b := b) (.inl rfl) 1 none _, fun i e => by cases e⟩
end
end Go.Proofs.Ytedhgejkobdihaa
