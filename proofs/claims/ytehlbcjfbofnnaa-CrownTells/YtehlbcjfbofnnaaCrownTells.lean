/-
  Proved: maquettelaw14.CrownTells returns true for every crown, every two texts and every int, and leaves what it was given as it was; no condition.
-/
import Derived.Test.YtehlbcjfbofnnaaRows
import Derived.Test.YtehlbcjfbofnnaaYAlive
import Derived.Test.YtehlbcjfbofnnaaYData
import Derived.WalkKit
import Derived.Deep.QuietTactic
import Derived.BigQuiet
import Derived.WalkSpells
import Derived.Deep.CutRange
import Derived.Deep.CutBlock
import Derived.WalkLawsBesides
import Derived.ProofKit
import Derived.OpenShut
import Derived.ShutString
import Derived.ChangeOld
import Derived.Below
namespace Go.Proofs.Ytehlbcjfbofnnaa.crownTells
open Go.ChangeShapes Go.WideShapes Go.ChangeAt Go.RowKit
open Go.ChangeMaps (open_string shut_string)
set_option linter.unusedVariables false

theorem own : ownKnob Try.prog.godebug = none := by kernel_rfl
theorem laidOut : laidOutB Try.prog = true := by kernel_rfl

theorem tells_get (s : ByteArray) {X : Cr} {i : Bool} (hX : getL s.data.toList = X) (hi : isC s.data.toList = i) : Hid (∀ W, Calls Try.prog 12 #[.string s] W fun e w' => e = .returned (.tuple #[.agg #[.int .i64 X.g, .int .i64 X.r, .int .i64 X.p], .bool i]) ∧ Below W.heap.size W w') ∧ Hid (∀ W, Calls Try.prog 13 #[.string s] W fun e w' => e = .returned (.tuple #[.agg #[.int .i64 X.g, .int .i64 X.r, .int .i64 X.p], .bool i]) ∧ Below W.heap.size W w') := by
  subst hX hi
  exact ⟨fun W => get_any s W, fun W => refget_any s W⟩
theorem tells_pick (s t : ByteArray) {P : Cr} {i : Int} {o : Bool} (hP : pickC s.data.toList t.data.toList = P) (hi : pickI s.data.toList t.data.toList = i) (ho : pickO s.data.toList t.data.toList = o) : Hid (∀ W, Calls Try.prog 14 #[.string s, .string t] W fun e w' => e = .returned (.tuple #[.agg #[.int .i64 P.g, .int .i64 P.r, .int .i64 P.p], .int .i64 i, .bool o]) ∧ Below W.heap.size W w') ∧ Hid (∀ W, Calls Try.prog 15 #[.string s, .string t] W fun e w' => e = .returned (.tuple #[.agg #[.int .i64 P.g, .int .i64 P.r, .int .i64 P.p], .int .i64 i, .bool o]) ∧ Below W.heap.size W w') := by
  subst hP hi ho
  exact ⟨fun W => pick_any s t W, fun W => refpick_any s t W⟩
theorem tells_put {C : Cr} {k : Bool} {x : ByteArray} (hk : okC C = k) (hx : putV C = x) : Hid (∀ W, Calls Try.prog 10 #[.agg #[.int .i64 C.g, .int .i64 C.r, .int .i64 C.p]] W fun e w' => e = .returned (.tuple #[.string x, .bool k]) ∧ Below W.heap.size W w') ∧ Hid (∀ W, Calls Try.prog 11 #[.agg #[.int .i64 C.g, .int .i64 C.r, .int .i64 C.p]] W fun e w' => e = .returned (.tuple #[.string x, .bool k]) ∧ Grew W w') := by
  subst hk hx
  exact ⟨fun W => put_any C W, fun W => refput_any C W⟩

set_option maxRecDepth 100000 in
set_option maxHeartbeats 16000000 in
theorem walk (C0 : Cr) (o0 : C0.ok) (s1 : ByteArray) (z1 : s1.size ≤ maxLen) (s2 : ByteArray) (z2 : s2.size ≤ maxLen) (a3 : Int) (f3 : inF a3) (w : World)    :
    Calls Try.prog 3 #[C0.val, .string s1, .string s2, .int .i64 a3] w fun e w' => e = .returned (.bool true) ∧ Below w.heap.size w w' := by
  have hal : Hid (∀ W, Calls Try.prog 9 #[] W fun e w' => e = .returned (.bool true) ∧ Below W.heap.size W w') := alive_any
  unfold Cr.val
  by_cases n1 : 300 < s1.size
  · have n1' : (300 : Int) < s1.size := by omega
    go_enter Try.func3, Try.ntmps3
    go_wp2_with (first
      | (go_at_call 9; go_fit (hal.out _); rintro e W1 ⟨rfl, K1⟩; have B1 := chain ((Grew.refl w).alloc _ _).below K1)
      | fail)
    go_ret
    exact ⟨rfl, B1⟩
  by_cases n2 : 300 < s2.size
  · have n1' : ¬ (300 : Int) < s1.size := by omega
    have n2' : (300 : Int) < s2.size := by omega
    go_enter Try.func3, Try.ntmps3
    go_wp2_with (first
      | (go_at_call 9; go_fit (hal.out _); rintro e W1 ⟨rfl, K1⟩; have B1 := chain ((Grew.refl w).alloc _ _).below K1)
      | fail)
    go_ret
    exact ⟨rfl, B1⟩
  have n1' : ¬ (300 : Int) < s1.size := by omega
  have n2' : ¬ (300 : Int) < s2.size := by omega
  obtain ⟨X, hX⟩ : ∃ X, getL s1.data.toList = X := ⟨_, rfl⟩
  obtain ⟨i, hi⟩ : ∃ i, isC s1.data.toList = i := ⟨_, rfl⟩
  obtain ⟨P, hP⟩ : ∃ P, pickC s1.data.toList s2.data.toList = P := ⟨_, rfl⟩
  obtain ⟨pi, hpi⟩ : ∃ i, pickI s1.data.toList s2.data.toList = i := ⟨_, rfl⟩
  obtain ⟨po, hpo⟩ : ∃ o, pickO s1.data.toList s2.data.toList = o := ⟨_, rfl⟩
  obtain ⟨h2, h3⟩ := tells_get s1 hX hi
  obtain ⟨h4, h5⟩ := tells_pick s1 s2 hP hpi hpo
  clear hX hi hP hpi hpo
  have q1 := fun W => ne_same_crown X.g X.r X.p W
  have q2 := fun W => ne_same_crown P.g P.r P.p W
  have q3 := fun W => ne_same_crown C0.g C0.r C0.p W
  have lb := last_bit a3
  have par : a3 % 2 = 0 ∨ a3 % 2 = 1 := by omega
  obtain ⟨z, hz⟩ : ∃ z, a3 % 2 = z := ⟨_, rfl⟩
  rw [hz] at lb par
  have hsl : Hid (∀ W, Calls Try.prog 16 #[.int .i64 a3] W fun e w' => e = .returned (.int .i64 z) ∧ w' = W) := fun W => by rw [← hz]; exact slot_any a3 W
  clear hz
  cases hk : okC C0 with
  | true =>
    obtain ⟨h0, h1⟩ := tells_put hk (x := putB C0) (by unfold putV; rw [if_pos hk])
    obtain ⟨h6, h7⟩ := tells_get (putB C0) (X := C0) (i := true) (by rw [put_list]; exact get_put hk) (by rw [put_list]; exact isC_put hk)
    clear h7
    generalize putB C0 = x at *
    clear hk
    rcases par with rfl | rfl
    · skip
      go_enter Try.func3, Try.ntmps3
      go_wp2_with (first
        | (go_at_call 9; go_fit (hal.out _); rintro e W1 ⟨rfl, K1⟩; have B1 := chain ((Grew.refl w).alloc _ _).below K1; have D1 := (cat_new w C0 _).below K1; have d0 := (D1).g; have d1 := (D1).r; have d2 := (D1).p; have dl := cell_block d0; dsimp only at d0 d1 d2 dl; clear K1)
        | (go_at_call 10; go_fit (h0.out _); rintro e W2 ⟨rfl, K2⟩; have B2 := chain B1 K2; replace D1 := D1.below K2; clear d0 d1 d2 dl; have d0 := (D1).g; have d1 := (D1).r; have d2 := (D1).p; have dl := cell_block d0; dsimp only at d0 d1 d2 dl; clear K2)
        | (go_at_call 11; go_fit (h1.out _); rintro e W3 ⟨rfl, K3⟩; have B3 := chain B2 K3.below; replace D1 := D1.grew K3; clear K3 d0 d1 d2 dl)
        | (go_at_call 12; go_fit (h2.out _); rintro e W4 ⟨rfl, K4⟩; have B4 := chain B3 K4; replace D1 := (D1.below K4).grew ((Grew.refl _).alloc (#[.int .i64 X.g, .int .i64 X.r, .int .i64 X.p]) 23); have E1 := cat_new W4 X 23; replace B4 := B4.alloc B4.size (.cells #[.int .i64 X.g, .int .i64 X.r, .int .i64 X.p] 23); clear K4)
        | (go_at_call 13; go_fit (h3.out _); rintro e W5 ⟨rfl, K5⟩; have B5 := chain B4 K5; replace D1 := (D1.below K5).grew ((Grew.refl _).alloc (#[.int .i64 X.g, .int .i64 X.r, .int .i64 X.p]) 28); replace E1 := (E1.below K5).grew ((Grew.refl _).alloc (#[.int .i64 X.g, .int .i64 X.r, .int .i64 X.p]) 28); have F1 := cat_new W5 X 28; replace B5 := B5.alloc B5.size (.cells #[.int .i64 X.g, .int .i64 X.r, .int .i64 X.p] 28); clear K5)
        | (go_at_call 14; go_fit (h4.out _); rintro e W6 ⟨rfl, K6⟩; have B6 := chain B5 K6; replace D1 := (D1.below K6).grew ((Grew.refl _).alloc (#[.int .i64 P.g, .int .i64 P.r, .int .i64 P.p]) 23); replace E1 := (E1.below K6).grew ((Grew.refl _).alloc (#[.int .i64 P.g, .int .i64 P.r, .int .i64 P.p]) 23); replace F1 := (F1.below K6).grew ((Grew.refl _).alloc (#[.int .i64 P.g, .int .i64 P.r, .int .i64 P.p]) 23); have G1 := cat_new W6 P 23; replace B6 := B6.alloc B6.size (.cells #[.int .i64 P.g, .int .i64 P.r, .int .i64 P.p] 23); clear K6)
        | (go_at_call 15; go_fit (h5.out _); rintro e W7 ⟨rfl, K7⟩; have B7 := chain B6 K7; replace D1 := D1.below K7; have d0 := (D1).g; have d1 := (D1).r; have d2 := (D1).p; have dl := cell_block d0; dsimp only at d0 d1 d2 dl; have x0 := (E1.below K7).g; have x1 := (E1.below K7).r; have x2 := (E1.below K7).p; have xl := cell_block x0; dsimp only at x0 x1 x2 xl; have y0 := (F1.below K7).g; have y1 := (F1.below K7).r; have y2 := (F1.below K7).p; have yl := cell_block y0; dsimp only at y0 y1 y2 yl; have p0 := (G1.below K7).g; have p1 := (G1.below K7).r; have p2 := (G1.below K7).p; have pl := cell_block p0; dsimp only at p0 p1 p2 pl; replace B7 := B7.alloc B7.size (.cells #[.int .i64 P.g, .int .i64 P.r, .int .i64 P.p] 28); clear K7 E1 F1 G1)
        | (go_at_call 12; go_fit (h6.out _); rintro e W8 ⟨rfl, K8⟩; have B8 := chain B7 K8; clear d0 d1 d2 dl x0 x1 x2 xl y0 y1 y2 yl p0 p1 p2 pl; replace D1 := (D1.grew ((Grew.refl _).alloc (#[.int .i64 P.g, .int .i64 P.r, .int .i64 P.p]) 28)).below K8; have d0 := (D1).g; have d1 := (D1).r; have d2 := (D1).p; have dl := cell_block d0; dsimp only at d0 d1 d2 dl; clear K8)
        | (go_at_call 16; go_fit (hsl.out _); rintro e W9 ⟨rfl, rfl⟩)
        | fail)
      go_ret
      exact ⟨rfl, B8.alloc B8.size _⟩
    · skip
      go_enter Try.func3, Try.ntmps3
      go_wp2_with (first
        | (go_at_call 9; go_fit (hal.out _); rintro e W1 ⟨rfl, K1⟩; have B1 := chain ((Grew.refl w).alloc _ _).below K1; have D1 := (cat_new w C0 _).below K1; have d0 := (D1).g; have d1 := (D1).r; have d2 := (D1).p; have dl := cell_block d0; dsimp only at d0 d1 d2 dl; clear K1)
        | (go_at_call 10; go_fit (h0.out _); rintro e W2 ⟨rfl, K2⟩; have B2 := chain B1 K2; replace D1 := D1.below K2; clear d0 d1 d2 dl; have d0 := (D1).g; have d1 := (D1).r; have d2 := (D1).p; have dl := cell_block d0; dsimp only at d0 d1 d2 dl; clear K2)
        | (go_at_call 11; go_fit (h1.out _); rintro e W3 ⟨rfl, K3⟩; have B3 := chain B2 K3.below; replace D1 := D1.grew K3; clear K3 d0 d1 d2 dl)
        | (go_at_call 12; go_fit (h2.out _); rintro e W4 ⟨rfl, K4⟩; have B4 := chain B3 K4; replace D1 := (D1.below K4).grew ((Grew.refl _).alloc (#[.int .i64 X.g, .int .i64 X.r, .int .i64 X.p]) 23); have E1 := cat_new W4 X 23; replace B4 := B4.alloc B4.size (.cells #[.int .i64 X.g, .int .i64 X.r, .int .i64 X.p] 23); clear K4)
        | (go_at_call 13; go_fit (h3.out _); rintro e W5 ⟨rfl, K5⟩; have B5 := chain B4 K5; replace D1 := (D1.below K5).grew ((Grew.refl _).alloc (#[.int .i64 X.g, .int .i64 X.r, .int .i64 X.p]) 28); replace E1 := (E1.below K5).grew ((Grew.refl _).alloc (#[.int .i64 X.g, .int .i64 X.r, .int .i64 X.p]) 28); have F1 := cat_new W5 X 28; replace B5 := B5.alloc B5.size (.cells #[.int .i64 X.g, .int .i64 X.r, .int .i64 X.p] 28); clear K5)
        | (go_at_call 14; go_fit (h4.out _); rintro e W6 ⟨rfl, K6⟩; have B6 := chain B5 K6; replace D1 := (D1.below K6).grew ((Grew.refl _).alloc (#[.int .i64 P.g, .int .i64 P.r, .int .i64 P.p]) 23); replace E1 := (E1.below K6).grew ((Grew.refl _).alloc (#[.int .i64 P.g, .int .i64 P.r, .int .i64 P.p]) 23); replace F1 := (F1.below K6).grew ((Grew.refl _).alloc (#[.int .i64 P.g, .int .i64 P.r, .int .i64 P.p]) 23); have G1 := cat_new W6 P 23; replace B6 := B6.alloc B6.size (.cells #[.int .i64 P.g, .int .i64 P.r, .int .i64 P.p] 23); clear K6)
        | (go_at_call 15; go_fit (h5.out _); rintro e W7 ⟨rfl, K7⟩; have B7 := chain B6 K7; replace D1 := D1.below K7; have d0 := (D1).g; have d1 := (D1).r; have d2 := (D1).p; have dl := cell_block d0; dsimp only at d0 d1 d2 dl; have x0 := (E1.below K7).g; have x1 := (E1.below K7).r; have x2 := (E1.below K7).p; have xl := cell_block x0; dsimp only at x0 x1 x2 xl; have y0 := (F1.below K7).g; have y1 := (F1.below K7).r; have y2 := (F1.below K7).p; have yl := cell_block y0; dsimp only at y0 y1 y2 yl; have p0 := (G1.below K7).g; have p1 := (G1.below K7).r; have p2 := (G1.below K7).p; have pl := cell_block p0; dsimp only at p0 p1 p2 pl; replace B7 := B7.alloc B7.size (.cells #[.int .i64 P.g, .int .i64 P.r, .int .i64 P.p] 28); clear K7 E1 F1 G1)
        | (go_at_call 12; go_fit (h6.out _); rintro e W8 ⟨rfl, K8⟩; have B8 := chain B7 K8; clear d0 d1 d2 dl x0 x1 x2 xl y0 y1 y2 yl p0 p1 p2 pl; replace D1 := (D1.grew ((Grew.refl _).alloc (#[.int .i64 P.g, .int .i64 P.r, .int .i64 P.p]) 28)).below K8; have d0 := (D1).g; have d1 := (D1).r; have d2 := (D1).p; have dl := cell_block d0; dsimp only at d0 d1 d2 dl; clear K8)
        | (go_at_call 16; go_fit (hsl.out _); rintro e W9 ⟨rfl, rfl⟩)
        | fail)
      go_ret
      exact ⟨rfl, B8.alloc B8.size _⟩
  | false =>
    obtain ⟨h0, h1⟩ := tells_put hk (x := ByteArray.empty) (by unfold putV; rw [if_neg (by rw [hk]; decide)])
    generalize ByteArray.empty = x at *
    clear hk
    rcases par with rfl | rfl
    · skip
      go_enter Try.func3, Try.ntmps3
      go_wp2_with (first
        | (go_at_call 9; go_fit (hal.out _); rintro e W1 ⟨rfl, K1⟩; have B1 := chain ((Grew.refl w).alloc _ _).below K1; have D1 := (cat_new w C0 _).below K1; have d0 := (D1).g; have d1 := (D1).r; have d2 := (D1).p; have dl := cell_block d0; dsimp only at d0 d1 d2 dl; clear K1)
        | (go_at_call 10; go_fit (h0.out _); rintro e W2 ⟨rfl, K2⟩; have B2 := chain B1 K2; replace D1 := D1.below K2; clear d0 d1 d2 dl; have d0 := (D1).g; have d1 := (D1).r; have d2 := (D1).p; have dl := cell_block d0; dsimp only at d0 d1 d2 dl; clear K2)
        | (go_at_call 11; go_fit (h1.out _); rintro e W3 ⟨rfl, K3⟩; have B3 := chain B2 K3.below; replace D1 := D1.grew K3; clear K3 d0 d1 d2 dl)
        | (go_at_call 12; go_fit (h2.out _); rintro e W4 ⟨rfl, K4⟩; have B4 := chain B3 K4; replace D1 := (D1.below K4).grew ((Grew.refl _).alloc (#[.int .i64 X.g, .int .i64 X.r, .int .i64 X.p]) 23); have E1 := cat_new W4 X 23; replace B4 := B4.alloc B4.size (.cells #[.int .i64 X.g, .int .i64 X.r, .int .i64 X.p] 23); clear K4)
        | (go_at_call 13; go_fit (h3.out _); rintro e W5 ⟨rfl, K5⟩; have B5 := chain B4 K5; replace D1 := (D1.below K5).grew ((Grew.refl _).alloc (#[.int .i64 X.g, .int .i64 X.r, .int .i64 X.p]) 28); replace E1 := (E1.below K5).grew ((Grew.refl _).alloc (#[.int .i64 X.g, .int .i64 X.r, .int .i64 X.p]) 28); have F1 := cat_new W5 X 28; replace B5 := B5.alloc B5.size (.cells #[.int .i64 X.g, .int .i64 X.r, .int .i64 X.p] 28); clear K5)
        | (go_at_call 14; go_fit (h4.out _); rintro e W6 ⟨rfl, K6⟩; have B6 := chain B5 K6; replace D1 := (D1.below K6).grew ((Grew.refl _).alloc (#[.int .i64 P.g, .int .i64 P.r, .int .i64 P.p]) 23); replace E1 := (E1.below K6).grew ((Grew.refl _).alloc (#[.int .i64 P.g, .int .i64 P.r, .int .i64 P.p]) 23); replace F1 := (F1.below K6).grew ((Grew.refl _).alloc (#[.int .i64 P.g, .int .i64 P.r, .int .i64 P.p]) 23); have G1 := cat_new W6 P 23; replace B6 := B6.alloc B6.size (.cells #[.int .i64 P.g, .int .i64 P.r, .int .i64 P.p] 23); clear K6)
        | (go_at_call 15; go_fit (h5.out _); rintro e W7 ⟨rfl, K7⟩; have B7 := chain B6 K7; replace D1 := D1.below K7; have d0 := (D1).g; have d1 := (D1).r; have d2 := (D1).p; have dl := cell_block d0; dsimp only at d0 d1 d2 dl; have x0 := (E1.below K7).g; have x1 := (E1.below K7).r; have x2 := (E1.below K7).p; have xl := cell_block x0; dsimp only at x0 x1 x2 xl; have y0 := (F1.below K7).g; have y1 := (F1.below K7).r; have y2 := (F1.below K7).p; have yl := cell_block y0; dsimp only at y0 y1 y2 yl; have p0 := (G1.below K7).g; have p1 := (G1.below K7).r; have p2 := (G1.below K7).p; have pl := cell_block p0; dsimp only at p0 p1 p2 pl; replace B7 := B7.alloc B7.size (.cells #[.int .i64 P.g, .int .i64 P.r, .int .i64 P.p] 28); clear K7 E1 F1 G1)
        | (go_at_call 16; go_fit (hsl.out _); rintro e W9 ⟨rfl, rfl⟩)
        | fail)
      go_ret
      exact ⟨rfl, B7⟩
    · skip
      go_enter Try.func3, Try.ntmps3
      go_wp2_with (first
        | (go_at_call 9; go_fit (hal.out _); rintro e W1 ⟨rfl, K1⟩; have B1 := chain ((Grew.refl w).alloc _ _).below K1; have D1 := (cat_new w C0 _).below K1; have d0 := (D1).g; have d1 := (D1).r; have d2 := (D1).p; have dl := cell_block d0; dsimp only at d0 d1 d2 dl; clear K1)
        | (go_at_call 10; go_fit (h0.out _); rintro e W2 ⟨rfl, K2⟩; have B2 := chain B1 K2; replace D1 := D1.below K2; clear d0 d1 d2 dl; have d0 := (D1).g; have d1 := (D1).r; have d2 := (D1).p; have dl := cell_block d0; dsimp only at d0 d1 d2 dl; clear K2)
        | (go_at_call 11; go_fit (h1.out _); rintro e W3 ⟨rfl, K3⟩; have B3 := chain B2 K3.below; replace D1 := D1.grew K3; clear K3 d0 d1 d2 dl)
        | (go_at_call 12; go_fit (h2.out _); rintro e W4 ⟨rfl, K4⟩; have B4 := chain B3 K4; replace D1 := (D1.below K4).grew ((Grew.refl _).alloc (#[.int .i64 X.g, .int .i64 X.r, .int .i64 X.p]) 23); have E1 := cat_new W4 X 23; replace B4 := B4.alloc B4.size (.cells #[.int .i64 X.g, .int .i64 X.r, .int .i64 X.p] 23); clear K4)
        | (go_at_call 13; go_fit (h3.out _); rintro e W5 ⟨rfl, K5⟩; have B5 := chain B4 K5; replace D1 := (D1.below K5).grew ((Grew.refl _).alloc (#[.int .i64 X.g, .int .i64 X.r, .int .i64 X.p]) 28); replace E1 := (E1.below K5).grew ((Grew.refl _).alloc (#[.int .i64 X.g, .int .i64 X.r, .int .i64 X.p]) 28); have F1 := cat_new W5 X 28; replace B5 := B5.alloc B5.size (.cells #[.int .i64 X.g, .int .i64 X.r, .int .i64 X.p] 28); clear K5)
        | (go_at_call 14; go_fit (h4.out _); rintro e W6 ⟨rfl, K6⟩; have B6 := chain B5 K6; replace D1 := (D1.below K6).grew ((Grew.refl _).alloc (#[.int .i64 P.g, .int .i64 P.r, .int .i64 P.p]) 23); replace E1 := (E1.below K6).grew ((Grew.refl _).alloc (#[.int .i64 P.g, .int .i64 P.r, .int .i64 P.p]) 23); replace F1 := (F1.below K6).grew ((Grew.refl _).alloc (#[.int .i64 P.g, .int .i64 P.r, .int .i64 P.p]) 23); have G1 := cat_new W6 P 23; replace B6 := B6.alloc B6.size (.cells #[.int .i64 P.g, .int .i64 P.r, .int .i64 P.p] 23); clear K6)
        | (go_at_call 15; go_fit (h5.out _); rintro e W7 ⟨rfl, K7⟩; have B7 := chain B6 K7; replace D1 := D1.below K7; have d0 := (D1).g; have d1 := (D1).r; have d2 := (D1).p; have dl := cell_block d0; dsimp only at d0 d1 d2 dl; have x0 := (E1.below K7).g; have x1 := (E1.below K7).r; have x2 := (E1.below K7).p; have xl := cell_block x0; dsimp only at x0 x1 x2 xl; have y0 := (F1.below K7).g; have y1 := (F1.below K7).r; have y2 := (F1.below K7).p; have yl := cell_block y0; dsimp only at y0 y1 y2 yl; have p0 := (G1.below K7).g; have p1 := (G1.below K7).r; have p2 := (G1.below K7).p; have pl := cell_block p0; dsimp only at p0 p1 p2 pl; replace B7 := B7.alloc B7.size (.cells #[.int .i64 P.g, .int .i64 P.r, .int .i64 P.p] 28); clear K7 E1 F1 G1)
        | (go_at_call 16; go_fit (hsl.out _); rintro e W9 ⟨rfl, rfl⟩)
        | fail)
      go_ret
      exact ⟨rfl, B7⟩

set_option maxRecDepth 100000 in
theorem lifted (os : Os) (started : os.Started) (H : Type) (enc : TypeId × Value → H) :
    ReturnsInHanded {} Try.checked os 3 .any (Rows.crownTellsSpec.pre6 enc Try.prog Try.f3 Rows.crownTellsRow.domain false) (Rows.crownTellsSpec.post enc Try.prog Try.f3 false true false false) := by
  refine returnsInHanded_of_change (C := Try.checked) own started (by kernel_rfl) Try.func3
    (ChangeSpec.witness6 (enc := enc) (C := Try.checked) false ⟨#[], #[.agg #[.int .i64 0, .int .i64 0, .int .i64 0], .string ByteArray.empty, .string ByteArray.empty, .int .i64 0], []⟩ 8 (by kernel_rfl) (by kernel_rfl) (by kernel_rfl) (by kernel_rfl)) ?_
  intro W base args ds gs before hval0 hW hcnd _
  have hval : ∀ (j : Nat) t v, Try.f3.params[j]? = some t → args[j]? = some v → Value.okWide Try.prog W .any base t v := hval0
  have hW' := hW
  obtain ⟨p, q, hA0, hV, rfl, hfz, hnd⟩ := hW
  have hA : DataW.TrodAll enc Try.prog W 0 (fun _ => true) true Try.f3.params.toList args.toList ds p := hA0
  rw [Try.params3] at hA hval
  obtain ⟨v0, vs0, d0, ds0, p0, q0, hargs, rfl, rfl, h0, r0⟩ := trodAll_cons hA
  obtain ⟨v1, vs1, d1, ds1, p1, q1, rfl, rfl, rfl, h1, r1⟩ := trodAll_cons r0
  obtain ⟨v2, vs2, d2, ds2, p2, q2, rfl, rfl, rfl, h2, r2⟩ := trodAll_cons r1
  obtain ⟨v3, vs3, d3, ds3, p3, q3, rfl, rfl, rfl, h3, r3⟩ := trodAll_cons r2
  obtain ⟨rfl, rfl, rfl⟩ := trodAll_nil r3
  obtain rfl : args = #[v0, v1, v2, v3] := by cases args; simp_all
  obtain ⟨rfl, rfl⟩ := trodVars_none hV
  obtain ⟨C0, rfl, rfl, rfl, o0⟩ := open_crown (hval 0 23 v0 rfl rfl) h0
  obtain ⟨s1, rfl, rfl, rfl, z1⟩ := open_string Try.underlying9 (hval 1 9 v1 rfl rfl) h1
  obtain ⟨s2, rfl, rfl, rfl, z2⟩ := open_string Try.underlying9 (hval 2 9 v2 rfl rfl) h2
  obtain ⟨a3, rfl, rfl, rfl, w3⟩ := open_int Try.underlying3 (hval 3 3 v3 rfl rfl) h3
  have f3 := inF_wf w3
  clear hA0 hval0
  refine (walk C0 o0 s1 z1 s2 z2 a3 f3 W    ).mono fun e W' ⟨he, bel⟩ => ?_
  subst he
  exact ⟨_, rfl, _, _, _, [], _, [], hW', trodAll_mk1 (shut_bool Try.underlying4 _), (trodAll_cons_mk (shut_crown o0) (trodAll_cons_mk (shut_string Try.underlying9 z1) (trodAll_cons_mk (shut_string Try.underlying9 z2) (trodAll_cons_mk (shut_int Try.underlying3 w3) trodAll_mk0)))), rfl, bel.frame _, fun h => by cases h⟩

theorem over : Rows.crownTellsRow.holds Try.pinned (OpenSpec.ofChange Rows.crownTellsSpec) :=
  OpenClaim.holds_of_wide 3 Try.f3 rfl rfl rfl rfl rfl rfl rfl ⟨rfl, rfl, rfl, rfl, rfl⟩ rfl rfl rfl rfl rfl (by kernel_rfl) Try.func3 (by kernel_rfl)
    (of_decide_eq_true (by kernel_rfl)) (by unfold Func.isWrapper; first | (rw [if_pos (by decide +kernel)]; kernel_rfl) | (rw [if_neg (by decide +kernel)]; exact ⟨rfl, rfl⟩))
    (fun os started H enc _ => lifted os started H enc)

theorem proved : Rows.CrownTellsSaid :=
  over
end Go.Proofs.Ytehlbcjfbofnnaa.crownTells

namespace Go.Proofs.Ytehlbcjfbofnnaa
theorem crownTells_holds : Rows.CrownTellsSaid := crownTells.proved
end Go.Proofs.Ytehlbcjfbofnnaa
