/-
  Proved: maquettelaw15.SheetTells returns true for every list of slots, every list of cells, every int and every two strings, and leaves what it was given as it was; no condition.
-/
import Derived.Test.YtjcocmoidboamaaRows
import Derived.Test.YtjcocmoidboamaaZTells
import Derived.WalkKit
import Derived.Deep.QuietTactic
import Derived.BigQuiet
import Derived.WalkSpells
import Derived.Deep.CutRange
import Derived.Deep.CutBlock
import Derived.WalkLawsBesides
import Derived.ProofKit
import Derived.OpenShut
import Derived.ShutString
import Derived.ChangeOld
import Derived.Below
namespace Go.Proofs.Ytjcocmoidboamaa.sheetTells
open Go.ChangeShapes Go.WideShapes Go.ChangeAt Go.RowKit
open Go.ChangeMaps (open_string shut_string)
set_option linter.unusedVariables false

theorem own : ownKnob Try.prog.godebug = none := by kernel_rfl
theorem laidOut : laidOutB Try.prog = true := by kernel_rfl

theorem four_at4 (w : World) (A B C D : Value) (t : TypeId) : (w.alloc (.cells #[A, B, C, D] t)).cell? ⟨w.heap.size, 0, none⟩ = some A ∧ (w.alloc (.cells #[A, B, C, D] t)).cell? ⟨w.heap.size, 1, none⟩ = some B ∧ (w.alloc (.cells #[A, B, C, D] t)).cell? ⟨w.heap.size, 2, none⟩ = some C ∧ (w.alloc (.cells #[A, B, C, D] t)).cell? ⟨w.heap.size, 3, none⟩ = some D := new4 w A B C D t
def tx (A B C D : ByteArray) : Nat → ByteArray
  | 0 => A
  | 1 => B
  | 2 => C
  | _ => D

set_option maxRecDepth 100000 in
set_option maxHeartbeats 16000000 in
theorem walk (a0 : Option Addr) (cap0 : Nat) (L0 : List Sl) (a1 : Option Addr) (cap1 : Nat) (L1 : List Ce) (a2 : Int) (f2 : inF a2) (s3 : ByteArray) (z3 : s3.size ≤ maxLen) (s4 : ByteArray) (z4 : s4.size ≤ maxLen) (w : World) (b0 : SlotsAt w a0 L0) (b1 : Cess w a1 L1)   :
    Calls Try.prog 3 #[.slice a0 L0.length cap0, .slice a1 L1.length cap1, .int .i64 a2, .string s3, .string s4] w fun e w' => e = .returned (.bool true) ∧ Below w.heap.size w w' := by
  have hal : Hid (∀ W, Calls Try.prog 9 #[] W fun e w' => e = .returned (.bool true) ∧ Below W.heap.size W w') := alive15
  have HB0 : Hid (SlotsAt w a0 L0) := b0
  have HB1 : Hid (Cess w a1 L1) := b1
  clear b0 b1
  by_cases hbad : (40 : Int) < L0.length ∨ (¬ (40 : Int) < L0.length ∧ (40 : Int) < L1.length) ∨ (¬ (40 : Int) < L0.length ∧ ¬ (40 : Int) < L1.length ∧ (300 : Int) < s3.size) ∨ (¬ (40 : Int) < L0.length ∧ ¬ (40 : Int) < L1.length ∧ ¬ (300 : Int) < s3.size ∧ (300 : Int) < s4.size)
  · rcases hbad with h1 | ⟨h1, h2⟩ | ⟨h1, h2, h3⟩ | ⟨h1, h2, h3, h4⟩
    all_goals
      go_enter Try.func3, Try.ntmps3
      go_wp2_with (first | (go_at_call 9; go_fit (hal.out _); rintro e w1 ⟨rfl, hB⟩) | fail)
      go_ret
      exact ⟨rfl, hB⟩
  have h1 : ¬ (40 : Int) < L0.length := by omega
  have h2 : ¬ (40 : Int) < L1.length := by omega
  have h3 : ¬ (300 : Int) < s3.size := by omega
  have h4 : ¬ (300 : Int) < s4.size := by omega
  clear hbad
  obtain ⟨n, hN⟩ : ∃ n, L0.length = n := ⟨_, rfl⟩
  obtain ⟨m, hM⟩ : ∃ m, L1.length = m := ⟨_, rfl⟩
  rw [hN] at h1 ⊢
  rw [hM] at h2 ⊢
  replace hN : Hid (L0.length = n) := hN
  replace hM : Hid (L1.length = m) := hM
  have hn : n ≤ 40 := by omega
  have hm : m ≤ 40 := by omega
  go_enter Try.func3, Try.ntmps3
  go_wp2_with (first | (go_at_call 9; go_fit (hal.out _); rintro e w1 ⟨rfl, hB1⟩) | fail)
  go_loopw [67] (fun i wr => ∃ k : Nat, k ≤ m ∧ i = .int .i64 k ∧ Below w.heap.size w wr) (fun i _ => m - (intOf i).toNat)
  case atStart => exact ⟨0, by omega, rfl, hB1⟩
  case round =>
    clear hB1
    obtain ⟨k, hk, rfl, hB⟩ := hrel
    have hC := HB1.out.below hB
    replace hB : Hid (Below w.heap.size w wr) := hB
    by_cases hlt : k < m
    · have hki : (k : Int) < m := by omega
      have hkC : k < L1.length := by rw [hM.out]; exact hlt
      obtain ⟨b, off, rfl, hcs⟩ := hC.2.resolve_left (fun e => by rw [e] at hkC; simp at hkC)
      obtain ⟨c0, c1, c2, c3⟩ := hcs k hkC
      generalize L1.getD k noCe = x at *
      obtain ⟨K, Z, Q, T⟩ := x
      dsimp only at c0 c1 c2 c3
      clear hcs hC hkC
      by_cases hT : (300 : Int) < T.size
      · go_wp2
        go_ret
        exact ⟨rfl, hB.out.alloc hB.out.size _⟩
      · go_wp2
        exact ⟨⟨k + 1, hlt, by simp, hB.out.alloc hB.out.size _⟩, meas_up hlt⟩
    · have hki : ¬ (k : Int) < m := by omega
      have hI : Hid (Calls Try.prog 10 #[.slice a0 n cap0] wr fun e w' => e = .returned (.tuple #[.string (idxV L0), .bool (idxOk L0)]) ∧ Below wr.heap.size wr w') := by
        show Calls _ _ _ _ _
        have := index_any L0 a0 cap0 wr (HB0.out.below hB.out) (by rw [hN.out]; omega)
        rw [hN.out] at this
        exact this
      have hCs : Hid (∀ W, Below wr.heap.size wr W → Calls Try.prog 12 #[.slice a0 n cap0] W fun e w' => ∃ b c, e = .returned (.slice b n c) ∧ SlotsAt w' b L0 ∧ Below W.heap.size W w') := fun W h => by
        have := convs_got L0 a0 cap0 W (HB0.out.below (on_two hB.out h)) (by rw [hN.out]; omega)
        rw [hN.out] at this
        exact this
      have hRI : Hid (∀ W b c, SlotsAt W b L0 → Calls Try.prog 11 #[.slice b n c] W fun e w' => e = .returned (.tuple #[.string (idxV L0), .bool (idxOk L0)]) ∧ Below W.heap.size W w') := fun W b c h => by
        have := refindex_any L0 b c W h (by rw [hN.out]; omega)
        rw [hN.out] at this
        exact this.mono fun _ _ h => ⟨h.1, h.2.below⟩
      have hL : Hid (∀ W, Below wr.heap.size wr W → Calls Try.prog 13 #[.slice a1 m cap1] W fun e w' => e = .returned (.tuple #[.string (leafV L1), .bool (leafOk L1)]) ∧ Below W.heap.size W w') := fun W h => by
        have := leaf_any L1 a1 cap1 W (hC.2.below h) (by rw [hM.out]; omega)
        rw [hM.out] at this
        exact this
      have hCc : Hid (∀ W, Below wr.heap.size wr W → Calls Try.prog 15 #[.slice a1 m cap1] W fun e w' => ∃ b c, e = .returned (.slice b m c) ∧ CellsAt w' b L1 ∧ Below W.heap.size W w') := fun W h => by
        have := conv_got L1 a1 cap1 W (hC.2.below h) (by rw [hM.out]; omega)
        rw [hM.out] at this
        exact this
      have hRL : Hid (∀ W b c, CellsAt W b L1 → Calls Try.prog 14 #[.slice b m c] W fun e w' => e = .returned (.tuple #[.string (leafV L1), .bool (leafOk L1)]) ∧ Below W.heap.size W w') := fun W b c h => by
        have := refleaf_any L1 b c W h (by rw [hM.out]; omega)
        rw [hM.out] at this
        exact this.mono fun _ _ h => ⟨h.1, h.2.below⟩
      have hFt : Hid (∀ W, Below wr.heap.size wr W → Calls Try.prog 18 #[.slice a1 m cap1] W fun e w' => e = .returned (.bool (leafOk L1)) ∧ Below W.heap.size W w') := fun W h => by
        have := fits_any L1 a1 cap1 W (hC.2.below h) (by rw [hM.out]; omega)
        rw [hM.out] at this
        exact this
      have hCh : Hid (∀ W, Calls Try.prog 16 #[.int .i64 a2, .string s3] W fun e w' => e = .returned (.tuple #[.string (chainV a2 s3.data.toList), .bool (chainOk a2 s3.data.toList)]) ∧ Below W.heap.size W w') := fun W => by
        have := schain_any a2 s3.data.toList W
        rw [txt_list] at this
        exact this
      have hRC : Hid (∀ W, Calls Try.prog 17 #[.int .i64 a2, .string s3] W fun e w' => e = .returned (.tuple #[.string (chainV a2 s3.data.toList), .bool (chainOk a2 s3.data.toList)]) ∧ Below W.heap.size W w') := fun W => by
        have := refchain_any a2 s3.data.toList W
        rw [txt_list] at this
        exact this.mono fun _ _ h => ⟨h.1, h.2.below⟩
      have z0 := idxV_size L0
      have z1 := leafV_size L1
      have z2 := chainV_size a2 s3.data.toList
      generalize idxV L0 = P0 at *
      generalize leafV L1 = P1 at *
      generalize chainV a2 s3.data.toList = P2 at *
      generalize idxOk L0 = k0 at *
      generalize leafOk L1 = k1 at *
      generalize chainOk a2 s3.data.toList = k2 at *
      clear hC HB0 HB1 hN hM
      have Z0 : Hid (P0.size ≤ 300 ∧ P1.size ≤ 300 ∧ P2.size ≤ 300 ∧ s4.size ≤ 300) := (⟨z0, z1, z2, by omega⟩ : P0.size ≤ 300 ∧ P1.size ≤ 300 ∧ P2.size ≤ 300 ∧ s4.size ≤ 300)
      clear z0 z1 z2 h3 h4
      go_wp2_with (first
        | (go_at_call 10; go_fit hI.out; rintro e w2 ⟨rfl, B2⟩)
        | (go_at_call 12; go_fit (hCs.out _ B2); rintro e w3 ⟨b3, c3, rfl, g3, B3⟩)
        | (go_at_call 11; go_fit (hRI.out _ _ _ g3); rintro e w4 ⟨rfl, B4⟩; have B24 := on_three B2 B3 B4)
        | (go_at_call 13; go_fit (hL.out _ B24); rintro e w5 ⟨rfl, B5⟩; have B25 := on_two B24 B5)
        | (go_at_call 15; go_fit (hCc.out _ B25); rintro e w6 ⟨b6, c6, rfl, g6, B6⟩)
        | (go_at_call 14; go_fit (hRL.out _ _ _ g6); rintro e w7 ⟨rfl, B7⟩; have B27 := on_three B25 B6 B7)
        | (go_at_call 16; go_fit (hCh.out _); rintro e w8 ⟨rfl, B8⟩)
        | (go_at_call 17; go_fit (hRC.out _); rintro e w9 ⟨rfl, B9⟩; have B29 := on_three B27 B8 B9)
        | (go_at_call 18; go_fit (hFt.out _ B29); rintro e wf ⟨rfl, Bf⟩)
        | fail)
      have BV : Below w.heap.size w (wf.alloc (.cells #[.string s4, .string P0, .string P1, .string P2] 9)) := (hB.out.trans ((on_two B29 Bf).mono hB.out.size)).alloc (by have := hB.out.size; have := B29.size; have := Bf.size; omega) _
      obtain ⟨c0, c1, c2, c3⟩ := four_at4 wf (.string s4) (.string P0) (.string P1) (.string P2) 9
      obtain ⟨q, hq⟩ : ∃ q, wf.heap.size = q := ⟨_, rfl⟩
      obtain ⟨V, hV⟩ : ∃ V, wf.alloc (.cells #[.string s4, .string P0, .string P1, .string P2] 9) = V := ⟨_, rfl⟩
      have hql : w.heap.size ≤ q := by rw [← hq]; have := hB.out.size; have := B29.size; have := Bf.size; omega
      rw [hV, hq] at c0 c1 c2 c3
      rw [hV] at BV
      rw [hV, hq]
      have hT4 : Hid (∀ j, j < 4 → V.cell? ⟨q, j, none⟩ = some (.string (tx s4 P0 P1 P2 j))) := fun j hj => by
        match j, hj with
        | 0, _ => exact c0
        | 1, _ => exact c1
        | 2, _ => exact c2
        | 3, _ => exact c3
      have hS4 : Hid (∀ j, (tx s4 P0 P1 P2 j).size ≤ 300) := fun j => by
        obtain ⟨y0, y1, y2, y3⟩ := Z0.out
        match j with
        | 0 => exact y3
        | 1 => exact y0
        | 2 => exact y1
        | _ + 3 => exact y2
      generalize tx s4 P0 P1 P2 = tt at *
      clear hV hq c0 c1 c2 c3 hI hCs hRI hL hCc hRL hFt hCh hRC B2 B3 B4 B24 B5 B25 B6 B7 B27 B8 B9 B29 Bf g3 g6 Z0 hB hql hal hk hlt hki
      obtain ⟨WQ, rfl⟩ : ∃ WQ, WQ = wr := ⟨_, rfl⟩
      go_loopw [150] (fun i wr => ∃ k : Nat, k ≤ 4 ∧ i = .int .i64 k ∧ Below w.heap.size w wr ∧ Below V.heap.size V wr) (fun i _ => 4 - (intOf i).toNat)
      case atStart => exact ⟨0, by omega, rfl, BV, Below.refl _ _⟩
      case round =>
        clear BV
        obtain ⟨k, hk, rfl, hB, hVw⟩ := hrel
        by_cases hlt : k < 4
        · have hki : (k : Int) < 4 := by omega
          have hc := below_cell hVw (hT4.out k hlt)
          have hs := hS4.out k
          generalize tt k = T at *
          replace hB : Hid (Below w.heap.size w wr) := hB
          replace hVw : Hid (Below V.heap.size V wr) := hVw
          have hl1 : Hid ((idxS T).length ≤ 300) := idxS_len T
          have hl2 : Hid ((cellsS T).length ≤ 300) := cellsS_len T
          have hS : Hid (∀ W, Calls Try.prog 19 #[.string T] W fun e w' => ∃ b c, e = .returned (.tuple #[.slice b (idxS T).length c, .bool (isIdx T)]) ∧ SlotsAt w' b (idxS T) ∧ Below W.heap.size W w') := fun W => slots_at T (by omega) W
          have hRS : Hid (∀ W, Calls Try.prog 20 #[.string T] W fun e w' => ∃ b c, e = .returned (.tuple #[.slice b (idxS T).length c, .bool (isIdx T)]) ∧ SlotsAt w' b (idxS T) ∧ Below W.heap.size W w') := fun W => refslots_at T W
          have hC : Hid (∀ W, Calls Try.prog 21 #[.string T] W fun e w' => ∃ b c, e = .returned (.tuple #[.slice b (cellsS T).length c, .bool (isLeaf T)]) ∧ CellsAt w' b (cellsS T) ∧ Below W.heap.size W w') := fun W => cells_at T (by omega) W
          have hRC : Hid (∀ W, Calls Try.prog 22 #[.string T] W fun e w' => ∃ b c, e = .returned (.tuple #[.slice b (cellsS T).length c, .bool (isLeaf T)]) ∧ CellsAt w' b (cellsS T) ∧ Below W.heap.size W w') := fun W => refcells_at T W
          have hL : Hid (∀ W, Calls Try.prog 23 #[.string T] W fun e w' => e = .returned (.tuple #[.int .i64 (linkV T).1, .string (linkV T).2, .bool (isLink T.data.toList)]) ∧ Below W.heap.size W w') := fun W => link_any T W (by omega)
          have hRL : Hid (∀ W, Calls Try.prog 24 #[.string T] W fun e w' => e = .returned (.tuple #[.int .i64 (linkV T).1, .string (linkV T).2, .bool (isLink T.data.toList)]) ∧ Below W.heap.size W w') := fun W => reflink_at T W
          have hK : Hid (∀ W, Calls Try.prog 27 #[.string T] W fun e w' => e = .returned (.int .u8 (kindV T)) ∧ Below W.heap.size W w') := fun W => kind_any T W (by omega)
          have hSS : Hid (∀ W a b c d, SlotsAt W a (idxS T) → SlotsAt W b (idxS T) → Calls Try.prog 25 #[.slice a (idxS T).length c, .slice b (idxS T).length d] W fun e w' => e = .returned (.bool true) ∧ Below W.heap.size W w') := fun W a b c d => same_slots (idxS T) hl1.out W a b c d
          have hSC : Hid (∀ W a b c d, CellsAt W a (cellsS T) → CellsAt W b (cellsS T) → Calls Try.prog 26 #[.slice a (cellsS T).length c, .slice b (cellsS T).length d] W fun e w' => e = .returned (.bool true) ∧ Below W.heap.size W w') := fun W a b c d => same_cells (cellsS T) hl2.out W a b c d
          have hq4 := four_kinds T
          have hk4 := kind_at T
          generalize (idxS T).length = m1 at *
          generalize (cellsS T).length = m2 at *
          generalize idxS T = S1 at *
          generalize cellsS T = D1 at *
          generalize (linkV T).1 = N1 at *
          generalize (linkV T).2 = X1 at *
          generalize isIdx T = x at *
          generalize isLeaf T = y at *
          generalize isLink T.data.toList = z at *
          generalize kindV T = K at *
          clear hl1 hl2 hs
          rcases hq4 with ⟨rfl, rfl, rfl, rfl⟩ | ⟨rfl, rfl, rfl, rfl⟩ | ⟨rfl, rfl, rfl, rfl⟩ | ⟨rfl, rfl, rfl, rfl⟩
          · obtain ⟨hz, hb⟩ := hk4 rfl
            have h0 : 0 < T.size := by omega
            have h00 : (0 : Int) < T.size := by omega
            clear hz hk4
            go_wp2_with (first
              | (go_at_call 19; go_fit (hS.out _); rintro e w2 ⟨b2, c2, rfl, g2, B2⟩)
              | (go_at_call 20; go_fit (hRS.out _); rintro e w3 ⟨b3, c3, rfl, g3, B3⟩; replace g2 := g2.below B3)
              | (go_at_call 21; go_fit (hC.out _); rintro e w4 ⟨b4, c4, rfl, g4, B4⟩; replace g2 := g2.below B4; replace g3 := g3.below B4)
              | (go_at_call 22; go_fit (hRC.out _); rintro e w5 ⟨b5, c5, rfl, g5, B5⟩; replace g2 := g2.below B5; replace g3 := g3.below B5; replace g4 := g4.below B5)
              | (go_at_call 23; go_fit (hL.out _); rintro e w6 ⟨rfl, B6⟩; replace g2 := g2.below B6; replace g3 := g3.below B6; replace g4 := g4.below B6; replace g5 := g5.below B6)
              | (go_at_call 24; go_fit (hRL.out _); rintro e w7 ⟨rfl, B7⟩; replace g2 := g2.below B7; replace g3 := g3.below B7; replace g4 := g4.below B7; replace g5 := g5.below B7)
              | (go_at_call 25; go_fit (hSS.out _ _ _ _ _ g2 g3); rintro e w8 ⟨rfl, B8⟩; replace g4 := g4.below B8; replace g5 := g5.below B8)
              | (go_at_call 26; go_fit (hSC.out _ _ _ _ _ g4 g5); rintro e w9 ⟨rfl, B9⟩)
              | (go_at_call 27; go_fit (hK.out _); rintro e wk ⟨rfl, Bk⟩)
              | fail)
            have Ball := on_three (on_three (on_three B2 B3 B4) (on_three B5 B6 B7) B8) B9 Bk
            exact ⟨⟨k + 1, hlt, by simp, hB.out.trans (Ball.mono hB.out.size), hVw.out.trans (Ball.mono hVw.out.size)⟩, meas_up hlt⟩
          · obtain ⟨hz, hb⟩ := hk4 rfl
            have h0 : 0 < T.size := by omega
            have h00 : (0 : Int) < T.size := by omega
            clear hz hk4
            go_wp2_with (first
              | (go_at_call 19; go_fit (hS.out _); rintro e w2 ⟨b2, c2, rfl, g2, B2⟩)
              | (go_at_call 20; go_fit (hRS.out _); rintro e w3 ⟨b3, c3, rfl, g3, B3⟩; replace g2 := g2.below B3)
              | (go_at_call 21; go_fit (hC.out _); rintro e w4 ⟨b4, c4, rfl, g4, B4⟩; replace g2 := g2.below B4; replace g3 := g3.below B4)
              | (go_at_call 22; go_fit (hRC.out _); rintro e w5 ⟨b5, c5, rfl, g5, B5⟩; replace g2 := g2.below B5; replace g3 := g3.below B5; replace g4 := g4.below B5)
              | (go_at_call 23; go_fit (hL.out _); rintro e w6 ⟨rfl, B6⟩; replace g2 := g2.below B6; replace g3 := g3.below B6; replace g4 := g4.below B6; replace g5 := g5.below B6)
              | (go_at_call 24; go_fit (hRL.out _); rintro e w7 ⟨rfl, B7⟩; replace g2 := g2.below B7; replace g3 := g3.below B7; replace g4 := g4.below B7; replace g5 := g5.below B7)
              | (go_at_call 25; go_fit (hSS.out _ _ _ _ _ g2 g3); rintro e w8 ⟨rfl, B8⟩; replace g4 := g4.below B8; replace g5 := g5.below B8)
              | (go_at_call 26; go_fit (hSC.out _ _ _ _ _ g4 g5); rintro e w9 ⟨rfl, B9⟩)
              | (go_at_call 27; go_fit (hK.out _); rintro e wk ⟨rfl, Bk⟩)
              | fail)
            have Ball := on_three (on_three (on_three B2 B3 B4) (on_three B5 B6 B7) B8) B9 Bk
            exact ⟨⟨k + 1, hlt, by simp, hB.out.trans (Ball.mono hB.out.size), hVw.out.trans (Ball.mono hVw.out.size)⟩, meas_up hlt⟩
          · obtain ⟨hz, hb⟩ := hk4 rfl
            have h0 : 0 < T.size := by omega
            have h00 : (0 : Int) < T.size := by omega
            clear hz hk4
            go_wp2_with (first
              | (go_at_call 19; go_fit (hS.out _); rintro e w2 ⟨b2, c2, rfl, g2, B2⟩)
              | (go_at_call 20; go_fit (hRS.out _); rintro e w3 ⟨b3, c3, rfl, g3, B3⟩; replace g2 := g2.below B3)
              | (go_at_call 21; go_fit (hC.out _); rintro e w4 ⟨b4, c4, rfl, g4, B4⟩; replace g2 := g2.below B4; replace g3 := g3.below B4)
              | (go_at_call 22; go_fit (hRC.out _); rintro e w5 ⟨b5, c5, rfl, g5, B5⟩; replace g2 := g2.below B5; replace g3 := g3.below B5; replace g4 := g4.below B5)
              | (go_at_call 23; go_fit (hL.out _); rintro e w6 ⟨rfl, B6⟩; replace g2 := g2.below B6; replace g3 := g3.below B6; replace g4 := g4.below B6; replace g5 := g5.below B6)
              | (go_at_call 24; go_fit (hRL.out _); rintro e w7 ⟨rfl, B7⟩; replace g2 := g2.below B7; replace g3 := g3.below B7; replace g4 := g4.below B7; replace g5 := g5.below B7)
              | (go_at_call 25; go_fit (hSS.out _ _ _ _ _ g2 g3); rintro e w8 ⟨rfl, B8⟩; replace g4 := g4.below B8; replace g5 := g5.below B8)
              | (go_at_call 26; go_fit (hSC.out _ _ _ _ _ g4 g5); rintro e w9 ⟨rfl, B9⟩)
              | (go_at_call 27; go_fit (hK.out _); rintro e wk ⟨rfl, Bk⟩)
              | fail)
            have Ball := on_three (on_three (on_three B2 B3 B4) (on_three B5 B6 B7) B8) B9 Bk
            exact ⟨⟨k + 1, hlt, by simp, hB.out.trans (Ball.mono hB.out.size), hVw.out.trans (Ball.mono hVw.out.size)⟩, meas_up hlt⟩
          · clear hk4
            go_wp2_with (first
              | (go_at_call 19; go_fit (hS.out _); rintro e w2 ⟨b2, c2, rfl, g2, B2⟩)
              | (go_at_call 20; go_fit (hRS.out _); rintro e w3 ⟨b3, c3, rfl, g3, B3⟩; replace g2 := g2.below B3)
              | (go_at_call 21; go_fit (hC.out _); rintro e w4 ⟨b4, c4, rfl, g4, B4⟩; replace g2 := g2.below B4; replace g3 := g3.below B4)
              | (go_at_call 22; go_fit (hRC.out _); rintro e w5 ⟨b5, c5, rfl, g5, B5⟩; replace g2 := g2.below B5; replace g3 := g3.below B5; replace g4 := g4.below B5)
              | (go_at_call 23; go_fit (hL.out _); rintro e w6 ⟨rfl, B6⟩; replace g2 := g2.below B6; replace g3 := g3.below B6; replace g4 := g4.below B6; replace g5 := g5.below B6)
              | (go_at_call 24; go_fit (hRL.out _); rintro e w7 ⟨rfl, B7⟩; replace g2 := g2.below B7; replace g3 := g3.below B7; replace g4 := g4.below B7; replace g5 := g5.below B7)
              | (go_at_call 25; go_fit (hSS.out _ _ _ _ _ g2 g3); rintro e w8 ⟨rfl, B8⟩; replace g4 := g4.below B8; replace g5 := g5.below B8)
              | (go_at_call 26; go_fit (hSC.out _ _ _ _ _ g4 g5); rintro e w9 ⟨rfl, B9⟩)
              | (go_at_call 27; go_fit (hK.out _); rintro e wk ⟨rfl, Bk⟩)
              | fail)
            have Ball := on_three (on_three (on_three B2 B3 B4) (on_three B5 B6 B7) B8) B9 Bk
            exact ⟨⟨k + 1, hlt, by simp, hB.out.trans (Ball.mono hB.out.size), hVw.out.trans (Ball.mono hVw.out.size)⟩, meas_up hlt⟩
        · have hki : ¬ (k : Int) < 4 := by omega
          go_wp2
          go_ret
          exact ⟨rfl, hB⟩

set_option maxRecDepth 100000 in
theorem lifted (os : Os) (started : os.Started) (H : Type) (enc : TypeId × Value → H) :
    ReturnsInHanded {} Try.checked os 3 .any (Rows.sheetTellsSpec.pre6 enc Try.prog Try.f3 Rows.sheetTellsRow.domain false) (Rows.sheetTellsSpec.post enc Try.prog Try.f3 false true false false) := by
  refine returnsInHanded_of_change (C := Try.checked) own started (by kernel_rfl) Try.func3
    (ChangeSpec.witness6 (enc := enc) (C := Try.checked) false ⟨#[], #[.slice none 0 0, .slice none 0 0, .int .i64 0, .string ByteArray.empty, .string ByteArray.empty], []⟩ 8 (by kernel_rfl) (by kernel_rfl) (by kernel_rfl) (by kernel_rfl)) ?_
  intro W base args ds gs before hval0 hW hcnd _
  have hval : ∀ (j : Nat) t v, Try.f3.params[j]? = some t → args[j]? = some v → Value.okWide Try.prog W .any base t v := hval0
  have hW' := hW
  obtain ⟨p, q, hA0, hV, rfl, hfz, hnd⟩ := hW
  have hA : DataW.TrodAll enc Try.prog W 0 (fun _ => true) true Try.f3.params.toList args.toList ds p := hA0
  rw [Try.params3] at hA hval
  obtain ⟨v0, vs0, d0, ds0, p0, q0, hargs, rfl, rfl, h0, r0⟩ := trodAll_cons hA
  obtain ⟨v1, vs1, d1, ds1, p1, q1, rfl, rfl, rfl, h1, r1⟩ := trodAll_cons r0
  obtain ⟨v2, vs2, d2, ds2, p2, q2, rfl, rfl, rfl, h2, r2⟩ := trodAll_cons r1
  obtain ⟨v3, vs3, d3, ds3, p3, q3, rfl, rfl, rfl, h3, r3⟩ := trodAll_cons r2
  obtain ⟨v4, vs4, d4, ds4, p4, q4, rfl, rfl, rfl, h4, r4⟩ := trodAll_cons r3
  obtain ⟨rfl, rfl, rfl⟩ := trodAll_nil r4
  obtain rfl : args = #[v0, v1, v2, v3, v4] := by cases args; simp_all
  obtain ⟨rfl, rfl⟩ := trodVars_none hV
  obtain ⟨a0, len0, cap0, rfl⟩ := okWide_slice Try.underlying22 (hval 0 22 v0 rfl rfl)
  have k0 := h0
  have lt0 : ∀ x ∈ p0, x.block < W.heap.size := by obtain ⟨m, hm⟩ := k0; exact DataW.trod_lt m _ _ _ hm
  obtain ⟨L0, rfl, b0⟩ := open_slots h0
  obtain ⟨a1, len1, cap1, rfl⟩ := okWide_slice Try.underlying23 (hval 1 23 v1 rfl rfl)
  have k1 := h1
  have lt1 : ∀ x ∈ p1, x.block < W.heap.size := by obtain ⟨m, hm⟩ := k1; exact DataW.trod_lt m _ _ _ hm
  obtain ⟨L1, rfl, b1⟩ := open_cells h1
  obtain ⟨a2, rfl, rfl, rfl, w2⟩ := open_int Try.underlying3 (hval 2 3 v2 rfl rfl) h2
  have f2 := inF_wf w2
  obtain ⟨s3, rfl, rfl, rfl, z3⟩ := open_string Try.underlying9 (hval 3 9 v3 rfl rfl) h3
  obtain ⟨s4, rfl, rfl, rfl, z4⟩ := open_string Try.underlying9 (hval 4 9 v4 rfl rfl) h4
  clear hA0 hval0
  refine (walk a0 cap0 L0 a1 cap1 L1 a2 f2 s3 z3 s4 z4 W b0 b1   ).mono fun e W' ⟨he, bel⟩ => ?_
  subst he
  exact ⟨_, rfl, _, _, _, [], _, [], hW', trodAll_mk1 (shut_bool Try.underlying4 _), (trodAll_cons_mk (Below.trod laidOut (by kernel_rfl) (of_decide_eq_true (by kernel_rfl)) k0 bel lt0) (trodAll_cons_mk (Below.trod laidOut (by kernel_rfl) (of_decide_eq_true (by kernel_rfl)) k1 bel lt1) (trodAll_cons_mk (shut_int Try.underlying3 w2) (trodAll_cons_mk (shut_string Try.underlying9 z3) (trodAll_cons_mk (shut_string Try.underlying9 z4) trodAll_mk0))))), rfl, bel.frame _, fun h => by cases h⟩

theorem over : Rows.sheetTellsRow.holds Try.pinned (OpenSpec.ofChange Rows.sheetTellsSpec) :=
  OpenClaim.holds_of_wide 3 Try.f3 rfl rfl rfl rfl rfl rfl rfl ⟨rfl, rfl, rfl, rfl, rfl⟩ rfl rfl rfl rfl rfl (by kernel_rfl) Try.func3 (by kernel_rfl)
    (of_decide_eq_true (by kernel_rfl)) (by unfold Func.isWrapper; first | (rw [if_pos (by decide +kernel)]; kernel_rfl) | (rw [if_neg (by decide +kernel)]; exact ⟨rfl, rfl⟩))
    (fun os started H enc _ => lifted os started H enc)

theorem proved : Rows.SheetTellsSaid :=
  over
end Go.Proofs.Ytjcocmoidboamaa.sheetTells

namespace Go.Proofs.Ytjcocmoidboamaa
theorem sheetTells_holds : Rows.SheetTellsSaid := sheetTells.proved
end Go.Proofs.Ytjcocmoidboamaa
