/-
  Package shelf's reading.page: the bytes of a page, which is loaded once.
-/
import Derived.Test.YtbkkhafckkndfaaGreatPxORd
import Derived.Test.YtbkkhafckkndfaaGreatPk03
import Derived.Test.YtbkkhafckkndfaaGreatPk02
namespace Go.Proofs.YtbkkhafckkndfaaGreat
open Go Go.RowKit

theorem below_one (w : World) (c : Array Value) {t : TypeId} : Below w.heap.size w (w.alloc (.cells c t)) := ((Grew.refl w).alloc _ _).below
theorem own_pos {w : World} {B n k : Nat} {E : TypeId} {v : Value} {xs : List Value} (h : w.ownsRow B E k v n xs) (h0 : 0 < n) : ∃ g cap, v = .slice (some ⟨g, 0, none⟩) n cap := by
  rcases h.2 with ⟨_, e⟩ | ⟨g, cap, cur, e, _⟩
  · omega
  · exact ⟨g, cap, e⟩
theorem RdV.apart {w0 W : World} {r p : Nat} {v : Value} {V : List Pr} (h : RdV w0 W r p v V) : v.ownBlock ≠ some W.heap.size := fun e => absurd (h.row.lt _ e).2 (Nat.lt_irrefl _)
theorem WrR.grown {r : Nat} {W W' : World} {v : Value} {B n k : Nat} {xs : List Value} (g : W.grownBy W' v.ownBlock) (h : W.ownsRow B 49 k v n xs) : WrR r W W' :=
  ⟨g.os, g.tape, g.output, g.size, fun i hi hn => g.block i hi fun e => hn (.inr (row_ofT h e.symm))⟩
set_option maxRecDepth 100000 in
set_option maxHeartbeats 4000000 in
theorem kpage_in {w0 w : World} {r p : Nat} {ld : Ld} {T : List Int} (hL : Loads w0 p ld) (h : RdK w0 w r p (canon ld T)) (hT : ∀ k ∈ T, (ld k).2 = 0) (n : Int) :
    Calls Tryz.prog 34 #[.pointer (some ⟨r, 0, none⟩), .int .i64 n] w fun e w' => e = .returned (.tuple #[.string (ld n).1, .int .i64 (ld n).2]) ∧ RdK w0 w' r p (canon ld (seeT ld n T)) ∧ WrR r w w' := by
  obtain ⟨v, h⟩ := h
  obtain ⟨m, hm⟩ : ∃ m, (canon ld T).length = m := ⟨_, rfl⟩
  have hml : m ≤ 200 := by rw [← hm]; exact canon_len ld T
  obtain ⟨a, cap, rfl, hP⟩ := h.get
  have c0 := h.c0
  have c1 := h.c1
  have hBin : Hid (Calls Tryz.prog 51 #[.slice a m cap, .int .i64 n, .func (.func 52) #[] #[]] w fun e w' => (∃ i, Spot (canon ld T) n i ∧ e = .returned (.tuple #[.int .i64 (i : Nat), .bool (isAt (canon ld T) n i)])) ∧ Grew w w') := by
    rw [← hm]; exact bin_any (canon ld T) a cap n w hP (canon_rise ld T) (by omega)
  rw [hm] at c1
  obtain ⟨⟨X, E⟩, hld⟩ : ∃ q, ld n = q := ⟨_, rfl⟩
  have hLd : Hid (∀ W, Below w0.heap.size w0 W → Calls Tryz.prog 11 #[.pointer (some ⟨p, 0, none⟩), .int .i64 n] W fun e w' => e = .returned (.tuple #[.string X, .int .i64 E]) ∧ w' = W) := fun W hB => by
    have := hL.call W n hB
    rw [hld] at this
    exact this
  have hnon := hL.non n
  have hrng := hL.rng n
  have hsz := hL.sz n
  have hTn := hT n
  have hsee : seeT ld n T = if (ld n).2 = 0 then n :: T else T := rfl
  rw [hsee]
  rw [hld] at hnon hrng hsz hTn ⊢
  dsimp only at hnon hrng hsz hTn ⊢
  replace hP : Hid (PrsAt w a (canon ld T)) := hP
  replace h : Hid (RdV w0 w r p (.slice a (canon ld T).length cap) (canon ld T)) := h
  replace hm : Hid ((canon ld T).length = m) := hm
  replace hT : Hid (∀ k ∈ T, (ld k).2 = 0) := hT
  replace hld : Hid (ld n = (X, E)) := hld
  replace hTn : Hid (n ∈ T → E = 0) := hTn
  replace hrng : Hid (E = 0 → 0 ≤ n ∧ n < 200) := hrng
  replace hnon : Hid (¬ E = 0 → X = ByteArray.empty) := hnon
  replace hL : Hid (Loads w0 p ld) := hL
  clear hsee
  go_enter Tryz.func34, Tryz.ntmps34
  go_upto_region 2 with (first
    | (go_at_call 51; go_fit hBin.out; rintro e w1 ⟨⟨i, hSp, rfl⟩, G1⟩)
    | fail)
  have h1 : RdV w0 w1 r p (.slice a m cap) (canon ld T) := by
    have := h.out.below G1.below
    rw [hm.out] at this
    exact this
  have R1 : WrR r w w1 := WrR.of G1.below
  have B1 := h1.bel
  have hP1 := h1.get
  have c0 := h1.c0
  have c1 := h1.c1
  dsimp only [loadV] at c0
  cases hA : isAt (canon ld T) n i with
  | true =>
    obtain ⟨k1, k2, k3, k4, k5⟩ := canon_at hA
    obtain rfl := hTn.out k3
    obtain ⟨b, off, rfl, hcs⟩ := (prs_grew hP.out G1).resolve_left (fun e => by rw [e] at k1; simp at k1)
    have hc := (hcs i k1).2
    rw [k2, hld.out] at hc
    rw [hm.out] at k1
    have hi2 : (i : Int) < m := by omega
    dsimp only at hc
    clear hcs k2 hP1
    have hFin : Hid (RdK w0 w1 r p (canon ld (if (0 : Int) = 0 then n :: T else T))) := by
      show RdK _ _ _ _ _
      rw [if_pos rfl, canon_dup k3]
      exact ⟨_, h1⟩
    replace h1 : Hid (RdV w0 w1 r p (.slice (some ⟨b, off, none⟩) m cap) (canon ld T)) := h1
    replace R1 : Hid (WrR r w w1) := R1
    clear hSp B1 G1
    go_wp2_with (fail)
    go_ret2
    exact ⟨rfl, hFin.out, R1.out⟩
  | false =>
    by_cases hE : E = 0
    · subst hE
      obtain ⟨hr0, hr1⟩ := hrng.out rfl
      have hV : Hid ((canon ld T).take i ++ ⟨n, X⟩ :: (canon ld T).drop i = canon ld (n :: T)) := by
        have := canon_ins hSp hA hr0 hr1
        rw [hld.out] at this
        exact this
      have hVl : Hid ((canon ld (n :: T)).length = m + 1) := by
        show _ = _
        have h1 := hSp.1
        have h2 := hm.out
        rw [← hV.out]
        simp
        omega
      have hVi : Hid ((canon ld (n :: T)).getD i noPr = ⟨n, X⟩) := by
        show _ = _
        have h1 := hSp.1
        rw [← hV.out]
        simp [List.getD, h1]
      have him : i ≤ m := by have := hSp.1; rw [hm.out] at this; exact this
      have hCl : Hid (∀ W, Calls Tryz.prog 55 #[.string X] W fun e w' => e = .returned (.string X) ∧ Below W.heap.size W w') := fun W => strclone_any X (by omega) W
      clear hSp G1 hP1 hP hTn hnon hrng hBin
      go_upto_region 7 with (first
        | (go_at_call 11; go_fit (hLd.out _ B1); rintro e w2 ⟨rfl, rfl⟩)
        | fail)
      refine lat_region (A := (fun _ => True)) (S := (fun W => RdV w0 W r p (.slice a m cap) (canon ld T) ∧ WrR r w W)) [11, 14] (by kernel_rfl) ?_ (fun hH0 => ?_)
      · exact ⟨trivial, h1.below ((Below.refl _ w2).drew), R1.trans (WrR.of ((Below.refl _ w2).drew))⟩
      refine lat_free (i := 0) (oi := { dst := some 40, op := Go.Op.move (Go.Operand.tmp 0), type := 100, pos := "reading.go:109", after := #[], guard := none }) (v := ?vpg1) rfl (by kernel_rfl) (by kernel_rfl) (by kernel_rfl) (by kernel_rfl) (fun _ _ _ h => h) (Or.inl ⟨by rfl, ?hypg1⟩) ⟨hH0.1, fun _ => hH0.2⟩ ?restpg1
      case hypg1 => (intro w hAw; skip; go_simp; try (with_reducible rfl))
      simp only [Act.put, List.setIfInBounds_toArray, List.set_cons_zero, List.set_cons_succ]
      refine lat_free (i := 1) (oi := { dst := some 41, op := Go.Op.move (Go.Operand.tmp 0), type := 100, pos := "reading.go:109", after := #[], guard := none }) (v := ?vpg2) rfl (by kernel_rfl) (by kernel_rfl) (by kernel_rfl) (by kernel_rfl) (fun _ _ _ h => h) (Or.inl ⟨by rfl, ?hypg2⟩) ⟨hH0.1, fun _ => hH0.2⟩ ?restpg2
      case hypg2 => (intro w hAw; skip; go_simp; try (with_reducible rfl))
      simp only [Act.put, List.setIfInBounds_toArray, List.set_cons_zero, List.set_cons_succ]
      refine lat_free (i := 2) (oi := { dst := some 42, op := Go.Op.nilCheck (Go.Operand.tmp 41), type := 0, pos := "reading.go:109", after := #[{ on := 1, ground := Go.Ground.data }], guard := none }) (v := ?vpg3) rfl (by kernel_rfl) (by kernel_rfl) (by kernel_rfl) (by kernel_rfl) (fun _ _ _ h => h) (Or.inl ⟨by rfl, ?hypg3⟩) ⟨hH0.1, fun _ => hH0.2⟩ ?restpg3
      case hypg3 => (intro w hAw; skip; go_simp; try (with_reducible rfl))
      simp only [Act.put, List.setIfInBounds_toArray, List.set_cons_zero, List.set_cons_succ]
      refine lat_free (i := 3) (oi := { dst := some 43, op := Go.Op.fieldAddr 68 (Go.Operand.tmp 42) 1, type := 0, pos := "reading.go:109", after := #[{ on := 2, ground := Go.Ground.data }], guard := none }) (v := ?vpg4) rfl (by kernel_rfl) (by kernel_rfl) (by kernel_rfl) (by kernel_rfl) (fun _ _ _ h => h) (Or.inl ⟨by rfl, ?hypg4⟩) ⟨hH0.1, fun _ => hH0.2⟩ ?restpg4
      case hypg4 => (intro w hAw; skip; go_simp; try (with_reducible rfl))
      simp only [Act.put, List.setIfInBounds_toArray, List.set_cons_zero, List.set_cons_succ]
      refine lat_take (i := 4) (oi := { dst := some 44, op := Go.Op.load 32 (Go.Operand.tmp 43), type := 32, pos := "reading.go:109", after := #[{ on := 3, ground := Go.Ground.data }], guard := none }) (v := ?vpg5) rfl (by kernel_rfl) (by kernel_rfl) (by kernel_rfl) (by kernel_rfl) (by kernel_rfl) (fun _ _ _ h => h) (Or.inl ⟨by rfl, ?hypg5⟩) hH0 ?restpg5
      case hypg5 => (intro w hSw; have kk := hSw.1.c1; go_simp; try (with_reducible rfl))
      simp only [Act.put, List.setIfInBounds_toArray, List.set_cons_zero, List.set_cons_succ]
      refine lat_free (i := 5) (oi := { dst := some 45, op := Go.Op.move (Go.Operand.tmp 6), type := 3, pos := "reading.go:109", after := #[], guard := none }) (v := ?vpg6) rfl (by kernel_rfl) (by kernel_rfl) (by kernel_rfl) (by kernel_rfl) (fun _ _ _ h => h) (Or.inl ⟨by rfl, ?hypg6⟩) ⟨hH0.1, fun _ => hH0.2⟩ ?restpg6
      case hypg6 => (intro w hAw; skip; go_simp; try (with_reducible rfl))
      simp only [Act.put, List.setIfInBounds_toArray, List.set_cons_zero, List.set_cons_succ]
      refine lat_free (i := 6) (oi := { dst := some 46, op := Go.Op.move (Go.Operand.tmp 1), type := 3, pos := "reading.go:109", after := #[], guard := none }) (v := ?vpg7) rfl (by kernel_rfl) (by kernel_rfl) (by kernel_rfl) (by kernel_rfl) (fun _ _ _ h => h) (Or.inl ⟨by rfl, ?hypg7⟩) ⟨hH0.1, fun _ => hH0.2⟩ ?restpg7
      case hypg7 => (intro w hAw; skip; go_simp; try (with_reducible rfl))
      simp only [Act.put, List.setIfInBounds_toArray, List.set_cons_zero, List.set_cons_succ]
      refine lat_free (i := 7) (oi := { dst := some 47, op := Go.Op.move (Go.Operand.tmp 8), type := 9, pos := "reading.go:109", after := #[], guard := none }) (v := ?vpg8) rfl (by kernel_rfl) (by kernel_rfl) (by kernel_rfl) (by kernel_rfl) (fun _ _ _ h => h) (Or.inl ⟨by rfl, ?hypg8⟩) ⟨hH0.1, fun _ => hH0.2⟩ ?restpg8
      case hypg8 => (intro w hAw; skip; go_simp; try (with_reducible rfl))
      simp only [Act.put, List.setIfInBounds_toArray, List.set_cons_zero, List.set_cons_succ]
      refine lat_one (i := 8) (by kernel_rfl) ?_
      refine lat_run (o := { dst := some 48, op := Go.Op.call { callee := Go.Callee.value (Go.Operand.func 55), args := #[Go.Operand.tmp 47], argTypes := #[9] }, type := 9, pos := "reading.go:109", after := #[{ on := 7, ground := Go.Ground.data }], guard := none }) rfl (fun K hK => ?_)
      go_simp
      go_at_call 55; go_fit (hCl.out _); rintro e W8 ⟨rfl, B8⟩
      refine hK.out _ _ (⟨trivial, hH0.2.1.below B8, hH0.2.2.trans (WrR.of B8)⟩) (fun hHpg9 => ?_)
      clear hK K
      refine lat_free (i := 9) (oi := { dst := some 49, op := Go.Op.build 49 #[(0, Go.Operand.tmp 46), (1, Go.Operand.tmp 48)], type := 49, pos := "reading.go:109", after := #[{ on := 6, ground := Go.Ground.data }, { on := 8, ground := Go.Ground.data }], guard := none }) (v := ?vpg10) rfl (by kernel_rfl) (by kernel_rfl) (by kernel_rfl) (by kernel_rfl) (fun _ _ _ h => h) (Or.inl ⟨by rfl, ?hypg10⟩) ⟨hHpg9.1, fun _ => hHpg9.2⟩ ?restpg10
      case hypg10 => (intro w hAw; skip; go_simp; try (with_reducible rfl))
      simp only [Act.put, List.setIfInBounds_toArray, List.set_cons_zero, List.set_cons_succ]
      refine lat_one (i := 10) (by kernel_rfl) ?_
      refine lat_run (o := { dst := some 50, op := Go.Op.buildSlice 32 1 #[(0, Go.Operand.tmp 49)], type := 32, pos := "reading.go:109", after := #[{ on := 9, ground := Go.Ground.data }], guard := none }) rfl (fun K hK => ?_)
      have hS8 : Hid (RdV w0 W8 r p (.slice a m cap) (canon ld T) ∧ WrR r w W8) := hHpg9.2
      go_simp
      refine hK.out _ _ (⟨trivial, hHpg9.2.1.below (below_one _ _), hHpg9.2.2.trans (WrR.of (below_one _ _))⟩) (fun hHpg11 => ?_)
      clear hK K
      refine lat_one (i := 11) (by kernel_rfl) ?_
      refine lat_write (o := { dst := some 51, op := Go.Op.call { callee := Go.Callee.value (Go.Operand.func 54), args := #[Go.Operand.tmp 44, Go.Operand.tmp 45, Go.Operand.tmp 50], argTypes := #[32, 3, 32] }, type := 32, pos := "reading.go:109", after := #[{ on := 4, ground := Go.Ground.data }, { on := 5, ground := Go.Ground.data }, { on := 10, ground := Go.Ground.data }, { on := 8, ground := Go.Ground.chain }], guard := none }) rfl (by kernel_rfl) (fun K hK => ?_)
      have hS10 : Hid (RdV w0 (W8.alloc (.cells #[.int .i64 n, .string X] 49)) r p (.slice a m cap) (canon ld T) ∧ WrR r w (W8.alloc (.cells #[.int .i64 n, .string X] 49))) := hHpg11.2
      have hrow : Hid ((W8.alloc (.cells #[.int .i64 n, .string X] 49)).ownsRow w0.heap.size 49 2 (.slice a m cap) m (prsV (canon ld T))) := by have := hS10.out.1.row; rw [hm.out] at this; exact this
      have hvb : Hid ((Value.slice a m cap).ownBlock ≠ some W8.heap.size) := hS8.out.1.apart
      go_simp
      go_at_call 54; go_fit (ins_any w0.heap.size m i W8.heap.size (canon ld T) (.slice a m cap) n X _ hm.out hrow.out (by omega) hS10.out.1.bel.size (by omega) (heap_alloc_new W8 _) hvb.out); rintro e W11 ⟨v2, rfl, hr2, hg2⟩; obtain ⟨b2, cap2, rfl⟩ := own_pos hr2 (by omega)
      refine hK.out _ _ (trivial) (fun hHpg12 => ?_)
      clear hK K
      refine lat_free2 (i := 12) (oi := { dst := some 52, op := Go.Op.nilCheck (Go.Operand.tmp 40), type := 0, pos := "reading.go:109", after := #[{ on := 0, ground := Go.Ground.data }, { on := 0, ground := Go.Ground.phase }, { on := 1, ground := Go.Ground.phase }, { on := 2, ground := Go.Ground.phase }, { on := 3, ground := Go.Ground.phase }, { on := 4, ground := Go.Ground.phase }, { on := 5, ground := Go.Ground.phase }, { on := 6, ground := Go.Ground.phase }, { on := 7, ground := Go.Ground.phase }, { on := 8, ground := Go.Ground.phase }, { on := 9, ground := Go.Ground.phase }, { on := 10, ground := Go.Ground.phase }, { on := 11, ground := Go.Ground.phase }], guard := none }) (v := ?vpg13) rfl (by kernel_rfl) (by kernel_rfl) (by kernel_rfl) (by kernel_rfl) (by kernel_rfl) (fun _ _ _ h => h) (Or.inl ⟨by rfl, ?hypg13⟩) hHpg12 ?restpg13
      case hypg13 => (intro w hAw; skip; go_simp; try (with_reducible rfl))
      simp only [Act.put, List.setIfInBounds_toArray, List.set_cons_zero, List.set_cons_succ]
      refine lat_free2 (i := 13) (oi := { dst := some 53, op := Go.Op.fieldAddr 68 (Go.Operand.tmp 52) 1, type := 0, pos := "reading.go:109", after := #[{ on := 12, ground := Go.Ground.data }, { on := 0, ground := Go.Ground.phase }, { on := 1, ground := Go.Ground.phase }, { on := 2, ground := Go.Ground.phase }, { on := 3, ground := Go.Ground.phase }, { on := 4, ground := Go.Ground.phase }, { on := 5, ground := Go.Ground.phase }, { on := 6, ground := Go.Ground.phase }, { on := 7, ground := Go.Ground.phase }, { on := 8, ground := Go.Ground.phase }, { on := 9, ground := Go.Ground.phase }, { on := 10, ground := Go.Ground.phase }, { on := 11, ground := Go.Ground.phase }], guard := none }) (v := ?vpg14) rfl (by kernel_rfl) (by kernel_rfl) (by kernel_rfl) (by kernel_rfl) (by kernel_rfl) (fun _ _ _ h => h) (Or.inl ⟨by rfl, ?hypg14⟩) hHpg12 ?restpg14
      case hypg14 => (intro w hAw; skip; go_simp; try (with_reducible rfl))
      simp only [Act.put, List.setIfInBounds_toArray, List.set_cons_zero, List.set_cons_succ]
      refine lat_one (i := 14) (by kernel_rfl) ?_
      refine lat_write (o := { dst := none, op := Go.Op.store 32 (Go.Operand.tmp 53) (Go.Operand.tmp 51), type := 0, pos := "reading.go:109", after := #[{ on := 13, ground := Go.Ground.data }, { on := 11, ground := Go.Ground.data }, { on := 11, ground := Go.Ground.chain }, { on := 0, ground := Go.Ground.phase }, { on := 1, ground := Go.Ground.phase }, { on := 2, ground := Go.Ground.phase }, { on := 3, ground := Go.Ground.phase }, { on := 4, ground := Go.Ground.phase }, { on := 5, ground := Go.Ground.phase }, { on := 6, ground := Go.Ground.phase }, { on := 7, ground := Go.Ground.phase }, { on := 8, ground := Go.Ground.phase }, { on := 9, ground := Go.Ground.phase }, { on := 10, ground := Go.Ground.phase }, { on := 11, ground := Go.Ground.phase }], guard := none }) rfl (by kernel_rfl) (fun K hK => ?_)
      have hb11 : Hid (W11.heap[r]? = some (.cells #[loadV p, .slice a m cap] 68 (0, 0))) := (hg2.block r hS10.out.1.lt (fun e => hS10.out.1.ne e.symm)).trans hS10.out.1.blk
      have c11 : W11.cell? ⟨r, 1, none⟩ = some (.slice a m cap) := by rw [cell_of_row _ _ _ _ _ _ hb11.out]; rfl
      have z11 := frozen_of_row W11 r 1 _ _ hb11.out
      go_simp
      refine hK.out _ _ (trivial) (fun hHpg15 => ?_)
      clear hK K
      refine lat_done (by kernel_rfl) ?_ _
      have hset : Hid (RdV w0 (W11.setCell ⟨r, 1, none⟩ (.slice (some ⟨b2, 0, none⟩) (m + 1) cap2)) r p (.slice (some ⟨b2, 0, none⟩) (m + 1) cap2) (canon ld (n :: T))) := by
        rw [hV.out] at hr2
        exact RdV.set hb11.out (hS10.out.1.bel.trans ((grown_but hg2).below (fun j e => (hrow.out.lt j e).1) hS10.out.1.bel.size)) hS10.out.1.lr (by rw [hVl.out]; exact hr2)
      have hWr : Hid (WrR r w (W11.setCell ⟨r, 1, none⟩ (.slice (some ⟨b2, 0, none⟩) (m + 1) cap2))) := hS10.out.2.trans ((WrR.grown hg2 hS10.out.1.row).trans ((But.refl _ W11).set (b := r) (.inl rfl) 1 none _))
      clear hb11 c11 z11 hr2 hg2 hvb hrow hS10 hS8
      generalize W11.setCell ⟨r, 1, none⟩ (.slice (some ⟨b2, 0, none⟩) (m + 1) cap2) = W12 at *
      have c12 := hset.out.c1
      obtain ⟨a3, cap3, e3, hP3⟩ := hset.out.get
      rw [hVl.out] at e3
      obtain ⟨rfl, rfl⟩ : a3 = some ⟨b2, 0, none⟩ ∧ cap3 = cap2 := by simp only [Value.slice.injEq] at e3; exact ⟨e3.1.symm, e3.2.2.symm⟩
      obtain ⟨b3, off3, e4, hcs⟩ := hP3.resolve_left (fun e => by have := hVl.out; rw [e] at this; simp at this)
      obtain ⟨rfl, rfl⟩ : b3 = b2 ∧ off3 = 0 := by simp at e4; exact ⟨e4.1.symm, e4.2.symm⟩
      have hc := (hcs i (by rw [hVl.out]; omega)).2
      rw [hVi.out] at hc
      dsimp only at hc
      rw [Nat.zero_add] at hc
      have hi3 : (i : Int) < (m : Int) + 1 := by omega
      clear hcs e3 e4 hP3
      rename_i hKK
      refine hKK _ _ ?_
      go_wp2_with (fail)
      go_ret2
      have hfin : RdK w0 W12 r p (canon ld (if (0 : Int) = 0 then n :: T else T)) := by rw [if_pos rfl]; exact ⟨_, hset.out⟩
      exact ⟨rfl, hfin, hWr.out⟩
    · have hFin : Hid (RdK w0 w1 r p (canon ld (if E = 0 then n :: T else T))) := by
        show RdK _ _ _ _ _
        rw [if_neg hE]
        exact ⟨_, h1⟩
      obtain rfl := hnon.out hE
      replace h1 : Hid (RdV w0 w1 r p (.slice a m cap) (canon ld T)) := h1
      replace R1 : Hid (WrR r w w1) := R1
      replace B1 : Hid (Below w0.heap.size w0 w1) := B1
      have hEb : (E != 0) = true := by simpa using hE
      clear hSp G1 hP1
      go_wp2_with (first
        | (go_at_call 11; go_fit (hLd.out _ B1.out); rintro e w2 ⟨rfl, rfl⟩)
        | fail)
      go_ret2
      exact ⟨rfl, by have := hFin.out; rw [if_neg hE] at this; exact this, R1.out⟩
end Go.Proofs.YtbkkhafckkndfaaGreat
