/-
  Proved: maquettelaw13.PlatterPlays returns true for every int and every list of Op, and leaves what it was given as it was; no condition.
-/
import Derived.Test.YtedhgejkobdihaaRows
import Derived.Test.YtedhgejkobdihaaTPlay
import Derived.Test.YtedhgejkobdihaaTOps
import Derived.Test.YtedhgejkobdihaaTNil
import Derived.Test.YtedhgejkobdihaaSLate
import Derived.WalkKit
import Derived.Deep.QuietTactic
import Derived.BigQuiet
import Derived.WalkSpells
import Derived.Deep.CutRange
import Derived.Deep.CutBlock
import Derived.WalkLawsBesides
import Derived.ProofKit
import Derived.OpenShut
import Derived.ChangeOld
import Derived.Below
namespace Go.Proofs.Ytedhgejkobdihaa.platterPlays
open Go.ChangeShapes Go.WideShapes Go.ChangeAt Go.RowKit
set_option linter.unusedVariables false

theorem own : ownKnob Try.prog.godebug = none := by kernel_rfl
theorem laidOut : laidOutB Try.prog = true := by kernel_rfl

theorem op_none : noOp.row = [.int .i64 0, .int .i64 0, .string ByteArray.empty, .bool false, .slice none 0 0] := rfl
theorem ops_at {w : World} {q off : Nat} {j : Nat} {o : OpN} (h : ∀ c, c < 5 → w.cell? ⟨q, off + j * 5 + c, none⟩ = o.row[c]?) :
    w.cell? ⟨q, off + j * 5, none⟩ = some (.int .i64 o.kind) ∧ w.cell? ⟨q, off + j * 5 + 1, none⟩ = some (.int .i64 o.n) ∧ w.cell? ⟨q, off + j * 5 + 2, none⟩ = some (.string o.b) ∧ w.cell? ⟨q, off + j * 5 + 3, none⟩ = some (.bool o.raw) ∧ w.cell? ⟨q, off + j * 5 + 4, none⟩ = some (.slice o.ca o.cuts.length o.cap) :=
  ⟨h 0 (by decide), h 1 (by decide), h 2 (by decide), h 3 (by decide), h 4 (by decide)⟩
theorem pq_cell {w0 w : World} {q b d : Nat} {cs : Array Value} {t : TypeId} {P : Pl} {R : Rp} (h : PairQ w0 w q (.cells cs t (0, 0)) b P d R) (c : Nat) {v : Value} (hv : cs[c]? = some v) : w.cell? ⟨q, c, none⟩ = some v := by rw [cell_of_row w q c _ _ _ h.blk]; exact hv
def notTwin : ByteArray := ⟨#[110, 111, 116, 32, 105, 110, 32, 116, 104, 101, 32, 116, 119, 105, 110]⟩

set_option maxRecDepth 100000 in
set_option maxHeartbeats 16000000 in
theorem walk (a0 : Int) (f0 : inF a0) (a1 : Option Addr) (cap1 : Nat) (L1 : List OpN) (w : World)  (b1 : Ops w a1 L1):
    Calls Try.prog 3 #[.int .i64 a0, .slice a1 L1.length cap1] w fun e w' => e = .returned (.bool true) ∧ Below w.heap.size w w' := by
  have hal : Hid (∀ W, Calls Try.prog 4 #[] W fun e w' => e = .returned (.bool true) ∧ Below W.heap.size W w') := alive_any
  by_cases hA : 20 < a0 ∧ a0 ≤ 200
  · obtain ⟨g1, g2⟩ := hA
    go_enter Try.func3, Try.ntmps3
    go_wp2_with (first | (go_at_call 4; go_fit (hal.out _); rintro e W1 ⟨rfl, hB⟩))
    go_ret
    exact ⟨rfl, hB⟩
  by_cases hL : 80 < L1.length
  · have hLi : (80 : Int) < L1.length := by omega
    by_cases g1 : 20 < a0
    · have g2 : ¬ a0 ≤ 200 := by omega
      go_enter Try.func3, Try.ntmps3
      go_wp2_with (first | (go_at_call 4; go_fit (hal.out _); rintro e W1 ⟨rfl, hB⟩))
      go_ret
      exact ⟨rfl, hB⟩
    · skip
      go_enter Try.func3, Try.ntmps3
      go_wp2_with (first | (go_at_call 4; go_fit (hal.out _); rintro e W1 ⟨rfl, hB⟩))
      go_ret
      exact ⟨rfl, hB⟩
  have hLi : ¬ (80 : Int) < L1.length := by omega
  by_cases hN : a0 < 1 ∨ 200 < a0
  · have hF : Hid (∀ W, Calls Try.prog 10 #[.string ByteArray.empty] W fun e w' => e = .returned (.string (fillB ByteArray.empty)) ∧ Grew W w') := fun W => fill_any W _
    have h1 : Hid (∀ W, _) := fun W => new_no W a0 hN
    have h2 : Hid (∀ W, _) := fun W => rnew_no W a0 hN
    generalize fillB ByteArray.empty = X at *
    have g0 : ¬ 20 < a0 ∨ ¬ a0 ≤ 200 := by omega
    rcases hN with hN | hN
    · have g1 : ¬ 20 < a0 := by omega
      clear g0
      go_enter Try.func3, Try.ntmps3
      go_wp2_with (first
        | (go_at_call 4; go_fit (hal.out _); rintro e W1 ⟨rfl, hB⟩)
        | (go_at_call 5; go_fit (h1.out _); rintro e w1 ⟨rfl, rfl⟩)
        | (go_at_call 6; go_fit (h2.out _); rintro e w1 ⟨rfl, rfl⟩)
        | (go_at_call 7; go_fit (load_nil _ _); rintro e w1 ⟨rfl, rfl⟩)
        | (go_at_call 8; go_fit (halt_nil _ _); rintro e w1 ⟨rfl, rfl⟩)
        | (go_at_call 10; go_fit (hF.out _); rintro e w1 ⟨rfl, G⟩; have hC := hB.trans (G.below.mono hB.size))
        | (go_at_call 9; go_fit (store_nil _ _ _); rintro e w1 ⟨rfl, rfl⟩)
        | (go_at_call 11; go_fit (settle_nil _); rintro e w1 ⟨rfl, rfl⟩)
        | (go_at_call 12; go_fit (halted_nil _); rintro e w1 ⟨rfl, rfl⟩)
        | (go_at_call 13; go_fit (fail_nil _ _); rintro e w1 ⟨rfl, rfl⟩)
        | (go_at_call 14; go_fit (afloat_nil _); rintro e w1 ⟨rfl, rfl⟩)
        | (go_at_call 15; go_fit (pages_nil _); rintro e w1 ⟨rfl, rfl⟩)
        | (go_at_call 16; go_fit (twin_nil _); rintro e w1 ⟨rfl, rfl⟩)
        | fail)
      go_ret
      exact ⟨rfl, hC⟩
    · have g1 : 20 < a0 := by omega
      have g2 : ¬ a0 ≤ 200 := by omega
      clear g0
      go_enter Try.func3, Try.ntmps3
      go_wp2_with (first
        | (go_at_call 4; go_fit (hal.out _); rintro e W1 ⟨rfl, hB⟩)
        | (go_at_call 5; go_fit (h1.out _); rintro e w1 ⟨rfl, rfl⟩)
        | (go_at_call 6; go_fit (h2.out _); rintro e w1 ⟨rfl, rfl⟩)
        | (go_at_call 7; go_fit (load_nil _ _); rintro e w1 ⟨rfl, rfl⟩)
        | (go_at_call 8; go_fit (halt_nil _ _); rintro e w1 ⟨rfl, rfl⟩)
        | (go_at_call 10; go_fit (hF.out _); rintro e w1 ⟨rfl, G⟩; have hC := hB.trans (G.below.mono hB.size))
        | (go_at_call 9; go_fit (store_nil _ _ _); rintro e w1 ⟨rfl, rfl⟩)
        | (go_at_call 11; go_fit (settle_nil _); rintro e w1 ⟨rfl, rfl⟩)
        | (go_at_call 12; go_fit (halted_nil _); rintro e w1 ⟨rfl, rfl⟩)
        | (go_at_call 13; go_fit (fail_nil _ _); rintro e w1 ⟨rfl, rfl⟩)
        | (go_at_call 14; go_fit (afloat_nil _); rintro e w1 ⟨rfl, rfl⟩)
        | (go_at_call 15; go_fit (pages_nil _); rintro e w1 ⟨rfl, rfl⟩)
        | (go_at_call 16; go_fit (twin_nil _); rintro e w1 ⟨rfl, rfl⟩)
        | fail)
      go_ret
      exact ⟨rfl, hC⟩
  · obtain ⟨k, rfl⟩ := Int.eq_ofNat_of_zero_le (a := a0) (by omega)
    have hk0 : 0 < k := by omega
    have hk1 : k ≤ 20 := by omega
    have g1 : ¬ (20 : Int) < k := by omega
    clear hA hN
    obtain ⟨m, hm⟩ : ∃ m, L1.length = m := ⟨_, rfl⟩
    have hm80 : m ≤ 80 := by omega
    rw [hm] at hLi ⊢
    replace hm : Hid (L1.length = m) := hm
    have HOps : Hid (Ops w a1 L1) := b1
    have hNew : Hid (∀ W, Below w.heap.size w W → Calls Try.prog 5 #[.int .i64 (k : Int)] W fun e w' => ∃ b, e = .returned (.pointer (some ⟨b, 0, none⟩)) ∧ One w w' b (newP k)) := fun W h => one_new (k := k) h hk0 (by omega)
    clear hL b1
    go_enter Try.func3, Try.ntmps3
    go_wp2_with (first
      | (go_at_call 4; go_fit (hal.out _); rintro e W1 ⟨rfl, hB⟩)
      | (go_at_call 5; go_fit (hNew.out _ hB); rintro e w1 ⟨b, rfl, hO⟩)
      | (go_at_call 6; go_fit (one_rnew hO (k := k) hk0 (by omega)); rintro e w1 ⟨d, rfl, hP⟩)
      | fail)
    have S0 : St k 0 (newP k) (newQ k) := ⟨sim_new hk0 (by omega), by simp [newP], by simp [newP]⟩
    go_loopw [5, 92] (fun p i wr => ∃ (j : Nat) (b : Nat) (P : Pl) (R : Rp), j ≤ m ∧ i = .int .i64 j ∧ p = .pointer (some ⟨b, 0, none⟩) ∧ Pair w wr b P d R ∧ St k j P R) (fun _ i _ => m - (intOf i).toNat)
    case atStart => exact ⟨0, b, newP k, newQ k, by omega, rfl, rfl, hP, S0⟩
    case round =>
      clear hP S0 hO hB
      obtain ⟨j, b, P, R, hj, rfl, rfl, hP, hS⟩ := hrel
      have hPB := hP.below
      by_cases hlt : j < m
      · have hji : (j : Int) < m := by omega
        have hjL : j < L1.length := by rw [hm.out]; exact hlt
        obtain ⟨q, off, rfl, hc0⟩ := HOps.out.2.resolve_left (fun e => by rw [e] at hjL; simp at hjL)
        obtain ⟨o, ho⟩ : ∃ o, o = L1.getD j noOp := ⟨_, rfl⟩
        have hok : Hid (o.ok w) := by
          refine HOps.out.1 o ?_
          rw [ho]
          simp [List.getD, hjL]
        have hcs := ops_at (w := w) (q := q) (off := off) (j := j) (o := o) (fun c hc => by rw [ho]; exact hc0 j hjL c hc)
        clear hc0 ho
        obtain ⟨e0, e1, e2, e3, e4⟩ := hcs
        replace e0 := (hPB.cell (cell_block e0)).trans e0
        replace e1 := (hPB.cell (cell_block e1)).trans e1
        replace e2 := (hPB.cell (cell_block e2)).trans e2
        replace e3 := (hPB.cell (cell_block e3)).trans e3
        replace e4 := (hPB.cell (cell_block e4)).trans e4
        obtain ⟨K, n, s, raw, ca, cap, cuts⟩ := o
        dsimp only at e0 e1 e2 e3 e4
        by_cases hs3 : 300 < s.size
        · have hs3i : (300 : Int) < s.size := by omega
          go_wp2_with (fail)
          go_ret
          exact ⟨rfl, hPB.alloc hPB.size _⟩
        have hs3i : ¬ (300 : Int) < s.size := by omega
        by_cases hc6 : 60 < cuts.length
        · have hc6i : (60 : Int) < cuts.length := by omega
          go_wp2_with (fail)
          go_ret
          exact ⟨rfl, hPB.alloc hPB.size _⟩
        have hc6i : ¬ (60 : Int) < cuts.length := by omega
        go_upto_block 2 with (fail)
        have hQ := hP.beside #[.int .i64 K, .int .i64 n, .string s, .bool raw, .slice ca cuts.length cap] 40
        clear e0 e1 e2 e3 e4 hs3 hc6 hs3i hc6i
        generalize wr.heap.size = qo at hQ ⊢
        generalize wr.alloc (.cells #[.int .i64 K, .int .i64 n, .string s, .bool raw, .slice ca cuts.length cap] 40) = V at hQ ⊢
        have hB2 := hQ.pair.below
        go_cut [5] from 93 to 217 (fun p wx => ∃ b P R, p = .pointer (some ⟨b, 0, none⟩) ∧ Pair w wx b P d R ∧ St k (j + 1) P R)
        case first =>
          have hb := hQ.blk
          have c0 : V.cell? ⟨qo, 0, none⟩ = some (.int .i64 K) := by rw [cell_of_row V qo 0 _ _ _ hb]; rfl
          have c1 : V.cell? ⟨qo, 1, none⟩ = some (.int .i64 n) := by rw [cell_of_row V qo 1 _ _ _ hb]; rfl
          have c2 : V.cell? ⟨qo, 2, none⟩ = some (.string s) := by rw [cell_of_row V qo 2 _ _ _ hb]; rfl
          have c3 : V.cell? ⟨qo, 3, none⟩ = some (.bool raw) := by rw [cell_of_row V qo 3 _ _ _ hb]; rfl
          have c4 : V.cell? ⟨qo, 4, none⟩ = some (.slice ca cuts.length cap) := by rw [cell_of_row V qo 4 _ _ _ hb]; rfl
          clear hb hP hPB
          by_cases k1 : K = 1
          · subst k1
            obtain ⟨x, r, l1, l2⟩ := hS.load n
            replace l1 : Hid (loadP P n = (x, r)) := l1
            replace l2 : Hid (loadQ R n = (x, r)) := l2
            go_wp2_with (first
              | (go_at_call 7; go_fit (one_load hQ.pair.one l1.out); rintro e w1 ⟨rfl, e⟩; have e := e.symm; subst e)
              | (go_at_call 17; go_fit (rpair_load hQ.pair l2.out); rintro e w1 ⟨rfl, e⟩; have e := e.symm; subst e)
              | fail)
            go_meet
            exact ⟨b, P, R, rfl, hQ.pair, hS.up⟩
          by_cases k2 : K = 2
          · subst k2
            have few1 : Hid (P.float.length < 1000000) := (Nat.lt_of_le_of_lt hS.few (by omega) : P.float.length < 1000000)
            have few2 : Hid (R.float.length < 1000000) := (by rw [hS.sim.float]; exact few1.out : R.float.length < 1000000)
            have hF : Hid (∀ W, Calls Try.prog 10 #[.string s] W fun e w' => e = .returned (.string (fillB s)) ∧ Grew W w') := fun W => fill_any W _
            generalize fillB s = Y at *
            cases raw with
            | true =>
              obtain ⟨r, P2, R2, l1, l2, hS2⟩ := hS.store (by omega) n s
              replace l1 : Hid (storeP P n s = (r, P2)) := l1
              replace l2 : Hid (storeQ R n s = (r, R2)) := l2
              go_upto_region 26 with (fail)
              have hQd := hQ.grew (Grew.refl _).drew
              refine lat_region (A := (fun w' => w'.cell? ⟨qo, 1, none⟩ = some (.int .i64 n))) (S := (fun _ => True)) [] (by kernel_rfl) ?_ (fun hH0 => ?_)
              · exact ⟨c1, trivial⟩
              refine lat_free (i := 0) (oi := { dst := some 141, op := Go.Op.move (Go.Operand.tmp 5), type := 24, pos := "law.go:67", after := #[], guard := none }) (v := ?vpa1) rfl (by kernel_rfl) (by kernel_rfl) (by kernel_rfl) (by kernel_rfl) (fun _ _ _ h => h) (Or.inl ⟨by rfl, ?hypa1⟩) ⟨hH0.1, fun _ => hH0.2⟩ ?restpa1
              case hypa1 => (intro w hAw; have q1 := hAw; go_simp; try (with_reducible rfl))
              simp only [Act.put, List.setIfInBounds_toArray, List.set_cons_zero, List.set_cons_succ]
              refine lat_free (i := 1) (oi := { dst := some 142, op := Go.Op.fieldAddr 40 (Go.Operand.tmp 11) 1, type := 0, pos := "law.go:67", after := #[], guard := none }) (v := ?vpa2) rfl (by kernel_rfl) (by kernel_rfl) (by kernel_rfl) (by kernel_rfl) (fun _ _ _ h => h) (Or.inl ⟨by rfl, ?hypa2⟩) ⟨hH0.1, fun _ => hH0.2⟩ ?restpa2
              case hypa2 => (intro w hAw; have q1 := hAw; go_simp; try (with_reducible rfl))
              simp only [Act.put, List.setIfInBounds_toArray, List.set_cons_zero, List.set_cons_succ]
              refine lat_free (i := 2) (oi := { dst := some 143, op := Go.Op.load 3 (Go.Operand.tmp 142), type := 3, pos := "law.go:67", after := #[{ on := 1, ground := Go.Ground.data }], guard := none }) (v := ?vpa3) rfl (by kernel_rfl) (by kernel_rfl) (by kernel_rfl) (by kernel_rfl) (fun _ _ _ h => h) (Or.inl ⟨by rfl, ?hypa3⟩) ⟨hH0.1, fun _ => hH0.2⟩ ?restpa3
              case hypa3 => (intro w hAw; have q1 := hAw; go_simp; try (with_reducible rfl))
              simp only [Act.put, List.setIfInBounds_toArray, List.set_cons_zero, List.set_cons_succ]
              refine lat_free (i := 3) (oi := { dst := some 144, op := Go.Op.move (Go.Operand.tmp 16), type := 9, pos := "law.go:67", after := #[], guard := none }) (v := ?vpa4) rfl (by kernel_rfl) (by kernel_rfl) (by kernel_rfl) (by kernel_rfl) (fun _ _ _ h => h) (Or.inl ⟨by rfl, ?hypa4⟩) ⟨hH0.1, fun _ => hH0.2⟩ ?restpa4
              case hypa4 => (intro w hAw; have q1 := hAw; go_simp; try (with_reducible rfl))
              simp only [Act.put, List.setIfInBounds_toArray, List.set_cons_zero, List.set_cons_succ]
              refine lat_free (i := 5) (oi := { dst := some 146, op := Go.Op.move (Go.Operand.tmp 6), type := 26, pos := "law.go:67", after := #[], guard := none }) (v := ?vpa5) rfl (by kernel_rfl) (by kernel_rfl) (by kernel_rfl) (by kernel_rfl) (fun _ _ _ h => h) (Or.inl ⟨by rfl, ?hypa5⟩) ⟨hH0.1, fun _ => hH0.2⟩ ?restpa5
              case hypa5 => (intro w hAw; have q1 := hAw; go_simp; try (with_reducible rfl))
              simp only [Act.put, List.setIfInBounds_toArray, List.set_cons_zero, List.set_cons_succ]
              refine lat_free (i := 6) (oi := { dst := some 147, op := Go.Op.fieldAddr 40 (Go.Operand.tmp 11) 1, type := 0, pos := "law.go:67", after := #[], guard := none }) (v := ?vpa6) rfl (by kernel_rfl) (by kernel_rfl) (by kernel_rfl) (by kernel_rfl) (fun _ _ _ h => h) (Or.inl ⟨by rfl, ?hypa6⟩) ⟨hH0.1, fun _ => hH0.2⟩ ?restpa6
              case hypa6 => (intro w hAw; have q1 := hAw; go_simp; try (with_reducible rfl))
              simp only [Act.put, List.setIfInBounds_toArray, List.set_cons_zero, List.set_cons_succ]
              refine lat_free (i := 7) (oi := { dst := some 148, op := Go.Op.load 3 (Go.Operand.tmp 147), type := 3, pos := "law.go:67", after := #[{ on := 6, ground := Go.Ground.data }], guard := none }) (v := ?vpa7) rfl (by kernel_rfl) (by kernel_rfl) (by kernel_rfl) (by kernel_rfl) (fun _ _ _ h => h) (Or.inl ⟨by rfl, ?hypa7⟩) ⟨hH0.1, fun _ => hH0.2⟩ ?restpa7
              case hypa7 => (intro w hAw; have q1 := hAw; go_simp; try (with_reducible rfl))
              simp only [Act.put, List.setIfInBounds_toArray, List.set_cons_zero, List.set_cons_succ]
              refine lat_free (i := 8) (oi := { dst := some 149, op := Go.Op.move (Go.Operand.tmp 16), type := 9, pos := "law.go:67", after := #[], guard := none }) (v := ?vpa8) rfl (by kernel_rfl) (by kernel_rfl) (by kernel_rfl) (by kernel_rfl) (fun _ _ _ h => h) (Or.inl ⟨by rfl, ?hypa8⟩) ⟨hH0.1, fun _ => hH0.2⟩ ?restpa8
              case hypa8 => (intro w hAw; have q1 := hAw; go_simp; try (with_reducible rfl))
              simp only [Act.put, List.setIfInBounds_toArray, List.set_cons_zero, List.set_cons_succ]
              refine lat_one (i := 4) (by kernel_rfl) ?_
              refine lat_run (o := { dst := some 145, op := Go.Op.call { callee := Go.Callee.value (Go.Operand.func 9), args := #[Go.Operand.tmp 141, Go.Operand.tmp 143, Go.Operand.tmp 144], argTypes := #[24, 3, 9] }, type := 28, pos := "law.go:67", after := #[{ on := 0, ground := Go.Ground.data }, { on := 2, ground := Go.Ground.data }, { on := 3, ground := Go.Ground.data }], guard := none }) rfl (fun K hK => ?_)
              go_simp
              go_wp2_with (first
                | (go_at_call 9; go_fit (pairq_store hQd l1.out few1.out); rintro e V1 ⟨rfl, hX1⟩)
                | fail)
              refine hK.out _ _ (⟨pq_cell hX1 1 rfl, trivial⟩) (fun hHpa9 => ?_)
              clear hK K
              refine lat_one (i := 9) (by kernel_rfl) ?_
              refine lat_run (o := { dst := some 150, op := Go.Op.call { callee := Go.Callee.value (Go.Operand.func 18), args := #[Go.Operand.tmp 146, Go.Operand.tmp 148, Go.Operand.tmp 149], argTypes := #[26, 3, 9] }, type := 28, pos := "law.go:67", after := #[{ on := 5, ground := Go.Ground.data }, { on := 7, ground := Go.Ground.data }, { on := 8, ground := Go.Ground.data }, { on := 4, ground := Go.Ground.chain }], guard := none }) rfl (fun K hK => ?_)
              go_simp
              go_wp2_with (first
                | (go_at_call 18; go_fit (rpairq_store hX1 l2.out few2.out); rintro e V2 ⟨rfl, hX2⟩)
                | fail)
              refine hK.out _ _ (⟨pq_cell hX2 1 rfl, trivial⟩) (fun hHpa10 => ?_)
              clear hK K
              refine lat_free (i := 10) (oi := { dst := some 151, op := Go.Op.binOp Go.BinOp.neq 28 (Go.Operand.tmp 145) (Go.Operand.tmp 150) 28, type := 4, pos := "law.go:67", after := #[{ on := 4, ground := Go.Ground.data }, { on := 9, ground := Go.Ground.data }], guard := none }) (v := ?vpa11) rfl (by kernel_rfl) (by kernel_rfl) (by kernel_rfl) (by kernel_rfl) (fun _ _ _ h => h) (Or.inl ⟨by rfl, ?hypa11⟩) ⟨hHpa10.1, fun _ => hHpa10.2⟩ ?restpa11
              case hypa11 => (intro w hAw; have q1 := hAw; go_simp; try (with_reducible rfl))
              simp only [Act.put, List.setIfInBounds_toArray, List.set_cons_zero, List.set_cons_succ]
              refine lat_done (by kernel_rfl) ?_ _
              go_wp2_with (fail)
              go_meet
              exact ⟨b, P2, R2, rfl, hX2.pair, hS2⟩
            | false =>
              obtain ⟨r, P2, R2, l1, l2, hS2⟩ := hS.store (by omega) n Y
              replace l1 : Hid (storeP P n Y = (r, P2)) := l1
              replace l2 : Hid (storeQ R n Y = (r, R2)) := l2
              go_upto_region 26 with (first | (go_at_call 10; go_fit (hF.out _); rintro e w1 ⟨rfl, G⟩; have hQ2 := hQ.grew G; have c1 := pq_cell hQ2 1 rfl) | fail)
              have hQd := hQ2.grew (Grew.refl _).drew
              refine lat_region (A := (fun w' => w'.cell? ⟨qo, 1, none⟩ = some (.int .i64 n))) (S := (fun _ => True)) [] (by kernel_rfl) ?_ (fun hH0 => ?_)
              · exact ⟨c1, trivial⟩
              refine lat_free (i := 0) (oi := { dst := some 141, op := Go.Op.move (Go.Operand.tmp 5), type := 24, pos := "law.go:67", after := #[], guard := none }) (v := ?vpb1) rfl (by kernel_rfl) (by kernel_rfl) (by kernel_rfl) (by kernel_rfl) (fun _ _ _ h => h) (Or.inl ⟨by rfl, ?hypb1⟩) ⟨hH0.1, fun _ => hH0.2⟩ ?restpb1
              case hypb1 => (intro w hAw; have q1 := hAw; go_simp; try (with_reducible rfl))
              simp only [Act.put, List.setIfInBounds_toArray, List.set_cons_zero, List.set_cons_succ]
              refine lat_free (i := 1) (oi := { dst := some 142, op := Go.Op.fieldAddr 40 (Go.Operand.tmp 11) 1, type := 0, pos := "law.go:67", after := #[], guard := none }) (v := ?vpb2) rfl (by kernel_rfl) (by kernel_rfl) (by kernel_rfl) (by kernel_rfl) (fun _ _ _ h => h) (Or.inl ⟨by rfl, ?hypb2⟩) ⟨hH0.1, fun _ => hH0.2⟩ ?restpb2
              case hypb2 => (intro w hAw; have q1 := hAw; go_simp; try (with_reducible rfl))
              simp only [Act.put, List.setIfInBounds_toArray, List.set_cons_zero, List.set_cons_succ]
              refine lat_free (i := 2) (oi := { dst := some 143, op := Go.Op.load 3 (Go.Operand.tmp 142), type := 3, pos := "law.go:67", after := #[{ on := 1, ground := Go.Ground.data }], guard := none }) (v := ?vpb3) rfl (by kernel_rfl) (by kernel_rfl) (by kernel_rfl) (by kernel_rfl) (fun _ _ _ h => h) (Or.inl ⟨by rfl, ?hypb3⟩) ⟨hH0.1, fun _ => hH0.2⟩ ?restpb3
              case hypb3 => (intro w hAw; have q1 := hAw; go_simp; try (with_reducible rfl))
              simp only [Act.put, List.setIfInBounds_toArray, List.set_cons_zero, List.set_cons_succ]
              refine lat_free (i := 3) (oi := { dst := some 144, op := Go.Op.move (Go.Operand.tmp 16), type := 9, pos := "law.go:67", after := #[], guard := none }) (v := ?vpb4) rfl (by kernel_rfl) (by kernel_rfl) (by kernel_rfl) (by kernel_rfl) (fun _ _ _ h => h) (Or.inl ⟨by rfl, ?hypb4⟩) ⟨hH0.1, fun _ => hH0.2⟩ ?restpb4
              case hypb4 => (intro w hAw; have q1 := hAw; go_simp; try (with_reducible rfl))
              simp only [Act.put, List.setIfInBounds_toArray, List.set_cons_zero, List.set_cons_succ]
              refine lat_free (i := 5) (oi := { dst := some 146, op := Go.Op.move (Go.Operand.tmp 6), type := 26, pos := "law.go:67", after := #[], guard := none }) (v := ?vpb5) rfl (by kernel_rfl) (by kernel_rfl) (by kernel_rfl) (by kernel_rfl) (fun _ _ _ h => h) (Or.inl ⟨by rfl, ?hypb5⟩) ⟨hH0.1, fun _ => hH0.2⟩ ?restpb5
              case hypb5 => (intro w hAw; have q1 := hAw; go_simp; try (with_reducible rfl))
              simp only [Act.put, List.setIfInBounds_toArray, List.set_cons_zero, List.set_cons_succ]
              refine lat_free (i := 6) (oi := { dst := some 147, op := Go.Op.fieldAddr 40 (Go.Operand.tmp 11) 1, type := 0, pos := "law.go:67", after := #[], guard := none }) (v := ?vpb6) rfl (by kernel_rfl) (by kernel_rfl) (by kernel_rfl) (by kernel_rfl) (fun _ _ _ h => h) (Or.inl ⟨by rfl, ?hypb6⟩) ⟨hH0.1, fun _ => hH0.2⟩ ?restpb6
              case hypb6 => (intro w hAw; have q1 := hAw; go_simp; try (with_reducible rfl))
              simp only [Act.put, List.setIfInBounds_toArray, List.set_cons_zero, List.set_cons_succ]
              refine lat_free (i := 7) (oi := { dst := some 148, op := Go.Op.load 3 (Go.Operand.tmp 147), type := 3, pos := "law.go:67", after := #[{ on := 6, ground := Go.Ground.data }], guard := none }) (v := ?vpb7) rfl (by kernel_rfl) (by kernel_rfl) (by kernel_rfl) (by kernel_rfl) (fun _ _ _ h => h) (Or.inl ⟨by rfl, ?hypb7⟩) ⟨hH0.1, fun _ => hH0.2⟩ ?restpb7
              case hypb7 => (intro w hAw; have q1 := hAw; go_simp; try (with_reducible rfl))
              simp only [Act.put, List.setIfInBounds_toArray, List.set_cons_zero, List.set_cons_succ]
              refine lat_free (i := 8) (oi := { dst := some 149, op := Go.Op.move (Go.Operand.tmp 16), type := 9, pos := "law.go:67", after := #[], guard := none }) (v := ?vpb8) rfl (by kernel_rfl) (by kernel_rfl) (by kernel_rfl) (by kernel_rfl) (fun _ _ _ h => h) (Or.inl ⟨by rfl, ?hypb8⟩) ⟨hH0.1, fun _ => hH0.2⟩ ?restpb8
              case hypb8 => (intro w hAw; have q1 := hAw; go_simp; try (with_reducible rfl))
              simp only [Act.put, List.setIfInBounds_toArray, List.set_cons_zero, List.set_cons_succ]
              refine lat_one (i := 4) (by kernel_rfl) ?_
              refine lat_run (o := { dst := some 145, op := Go.Op.call { callee := Go.Callee.value (Go.Operand.func 9), args := #[Go.Operand.tmp 141, Go.Operand.tmp 143, Go.Operand.tmp 144], argTypes := #[24, 3, 9] }, type := 28, pos := "law.go:67", after := #[{ on := 0, ground := Go.Ground.data }, { on := 2, ground := Go.Ground.data }, { on := 3, ground := Go.Ground.data }], guard := none }) rfl (fun K hK => ?_)
              go_simp
              go_wp2_with (first
                | (go_at_call 9; go_fit (pairq_store hQd l1.out few1.out); rintro e V1 ⟨rfl, hX1⟩)
                | fail)
              refine hK.out _ _ (⟨pq_cell hX1 1 rfl, trivial⟩) (fun hHpb9 => ?_)
              clear hK K
              refine lat_one (i := 9) (by kernel_rfl) ?_
              refine lat_run (o := { dst := some 150, op := Go.Op.call { callee := Go.Callee.value (Go.Operand.func 18), args := #[Go.Operand.tmp 146, Go.Operand.tmp 148, Go.Operand.tmp 149], argTypes := #[26, 3, 9] }, type := 28, pos := "law.go:67", after := #[{ on := 5, ground := Go.Ground.data }, { on := 7, ground := Go.Ground.data }, { on := 8, ground := Go.Ground.data }, { on := 4, ground := Go.Ground.chain }], guard := none }) rfl (fun K hK => ?_)
              go_simp
              go_wp2_with (first
                | (go_at_call 18; go_fit (rpairq_store hX1 l2.out few2.out); rintro e V2 ⟨rfl, hX2⟩)
                | fail)
              refine hK.out _ _ (⟨pq_cell hX2 1 rfl, trivial⟩) (fun hHpb10 => ?_)
              clear hK K
              refine lat_free (i := 10) (oi := { dst := some 151, op := Go.Op.binOp Go.BinOp.neq 28 (Go.Operand.tmp 145) (Go.Operand.tmp 150) 28, type := 4, pos := "law.go:67", after := #[{ on := 4, ground := Go.Ground.data }, { on := 9, ground := Go.Ground.data }], guard := none }) (v := ?vpb11) rfl (by kernel_rfl) (by kernel_rfl) (by kernel_rfl) (by kernel_rfl) (fun _ _ _ h => h) (Or.inl ⟨by rfl, ?hypb11⟩) ⟨hHpb10.1, fun _ => hHpb10.2⟩ ?restpb11
              case hypb11 => (intro w hAw; have q1 := hAw; go_simp; try (with_reducible rfl))
              simp only [Act.put, List.setIfInBounds_toArray, List.set_cons_zero, List.set_cons_succ]
              refine lat_done (by kernel_rfl) ?_ _
              go_wp2_with (fail)
              go_meet
              exact ⟨b, P2, R2, rfl, hX2.pair, hS2⟩
          by_cases k3 : K = 3
          · subst k3
            obtain ⟨r, P2, R2, l1, l2, hS2⟩ := hS.settle
            replace l1 : Hid (settleP P = (r, P2)) := l1
            replace l2 : Hid (settleQ R = (r, R2)) := l2
            go_wp2_with (first
              | (go_at_call 11; go_fit (pair_settle hQ.pair l1.out); rintro e V1 ⟨rfl, hX1⟩)
              | (go_at_call 19; go_fit (rpair_settle hX1 l2.out); rintro e V2 ⟨rfl, hX2⟩)
              | fail)
            go_meet
            exact ⟨b, P2, R2, rfl, hX2, hS2⟩
          by_cases k4 : K = 4
          · subst k4
            obtain ⟨P2, R2, l1, l2, hS2⟩ := hS.halt hok.out.n
            replace l1 : Hid (haltP P n = P2) := l1
            replace l2 : Hid (haltQ R n = R2) := l2
            go_wp2_with (first
              | (go_at_call 8; go_fit (pairq_halt hQ hok.out.n l1.out); rintro e V1 ⟨rfl, hX1⟩; have c1 : V1.cell? ⟨qo, 1, none⟩ = some (.int .i64 n) := by rw [cell_of_row V1 qo 1 _ _ _ hX1.blk]; rfl)
              | (go_at_call 20; go_fit (rpair_halt hX1.pair hok.out.n l2.out); rintro e V2 ⟨rfl, hX2⟩)
              | fail)
            go_meet
            exact ⟨b, P2, R2, rfl, hX2, hS2⟩
          by_cases k5 : K = 5
          · subst k5
            obtain ⟨r, P2, R2, l1, l2, hS2⟩ := hS.fail cuts
            replace l1 : Hid (failP P cuts = (r, P2)) := l1
            replace l2 : Hid (failQ R cuts = (r, R2)) := l2
            go_upto_region 35 with (fail)
            have hQd := hQ.grew (Grew.refl _).drew
            refine lat_region (A := (fun w' => w'.cell? ⟨qo, 4, none⟩ = some (.slice ca cuts.length cap))) (S := (fun _ => True)) [] (by kernel_rfl) ?_ (fun hH0 => ?_)
            · exact ⟨c4, trivial⟩
            refine lat_free (i := 0) (oi := { dst := some 171, op := Go.Op.move (Go.Operand.tmp 5), type := 24, pos := "law.go:78", after := #[], guard := none }) (v := ?vpc1) rfl (by kernel_rfl) (by kernel_rfl) (by kernel_rfl) (by kernel_rfl) (fun _ _ _ h => h) (Or.inl ⟨by rfl, ?hypc1⟩) ⟨hH0.1, fun _ => hH0.2⟩ ?restpc1
            case hypc1 => (intro w hAw; have q1 := hAw; go_simp; try (with_reducible rfl))
            simp only [Act.put, List.setIfInBounds_toArray, List.set_cons_zero, List.set_cons_succ]
            refine lat_free (i := 1) (oi := { dst := some 172, op := Go.Op.fieldAddr 40 (Go.Operand.tmp 11) 4, type := 0, pos := "law.go:78", after := #[], guard := none }) (v := ?vpc2) rfl (by kernel_rfl) (by kernel_rfl) (by kernel_rfl) (by kernel_rfl) (fun _ _ _ h => h) (Or.inl ⟨by rfl, ?hypc2⟩) ⟨hH0.1, fun _ => hH0.2⟩ ?restpc2
            case hypc2 => (intro w hAw; have q1 := hAw; go_simp; try (with_reducible rfl))
            simp only [Act.put, List.setIfInBounds_toArray, List.set_cons_zero, List.set_cons_succ]
            refine lat_free (i := 2) (oi := { dst := some 173, op := Go.Op.load 38 (Go.Operand.tmp 172), type := 38, pos := "law.go:78", after := #[{ on := 1, ground := Go.Ground.data }], guard := none }) (v := ?vpc3) rfl (by kernel_rfl) (by kernel_rfl) (by kernel_rfl) (by kernel_rfl) (fun _ _ _ h => h) (Or.inl ⟨by rfl, ?hypc3⟩) ⟨hH0.1, fun _ => hH0.2⟩ ?restpc3
            case hypc3 => (intro w hAw; have q1 := hAw; go_simp; try (with_reducible rfl))
            simp only [Act.put, List.setIfInBounds_toArray, List.set_cons_zero, List.set_cons_succ]
            refine lat_free (i := 4) (oi := { dst := some 175, op := Go.Op.move (Go.Operand.tmp 6), type := 26, pos := "law.go:78", after := #[], guard := none }) (v := ?vpc4) rfl (by kernel_rfl) (by kernel_rfl) (by kernel_rfl) (by kernel_rfl) (fun _ _ _ h => h) (Or.inl ⟨by rfl, ?hypc4⟩) ⟨hH0.1, fun _ => hH0.2⟩ ?restpc4
            case hypc4 => (intro w hAw; have q1 := hAw; go_simp; try (with_reducible rfl))
            simp only [Act.put, List.setIfInBounds_toArray, List.set_cons_zero, List.set_cons_succ]
            refine lat_free (i := 5) (oi := { dst := some 176, op := Go.Op.fieldAddr 40 (Go.Operand.tmp 11) 4, type := 0, pos := "law.go:78", after := #[], guard := none }) (v := ?vpc5) rfl (by kernel_rfl) (by kernel_rfl) (by kernel_rfl) (by kernel_rfl) (fun _ _ _ h => h) (Or.inl ⟨by rfl, ?hypc5⟩) ⟨hH0.1, fun _ => hH0.2⟩ ?restpc5
            case hypc5 => (intro w hAw; have q1 := hAw; go_simp; try (with_reducible rfl))
            simp only [Act.put, List.setIfInBounds_toArray, List.set_cons_zero, List.set_cons_succ]
            refine lat_free (i := 6) (oi := { dst := some 177, op := Go.Op.load 38 (Go.Operand.tmp 176), type := 38, pos := "law.go:78", after := #[{ on := 5, ground := Go.Ground.data }], guard := none }) (v := ?vpc6) rfl (by kernel_rfl) (by kernel_rfl) (by kernel_rfl) (by kernel_rfl) (fun _ _ _ h => h) (Or.inl ⟨by rfl, ?hypc6⟩) ⟨hH0.1, fun _ => hH0.2⟩ ?restpc6
            case hypc6 => (intro w hAw; have q1 := hAw; go_simp; try (with_reducible rfl))
            simp only [Act.put, List.setIfInBounds_toArray, List.set_cons_zero, List.set_cons_succ]
            refine lat_one (i := 3) (by kernel_rfl) ?_
            refine lat_run (o := { dst := some 174, op := Go.Op.call { callee := Go.Callee.value (Go.Operand.func 13), args := #[Go.Operand.tmp 171, Go.Operand.tmp 173], argTypes := #[24, 38] }, type := 3, pos := "law.go:78", after := #[{ on := 0, ground := Go.Ground.data }, { on := 2, ground := Go.Ground.data }], guard := none }) rfl (fun K hK => ?_)
            go_simp
            go_wp2_with (first
              | (go_at_call 13; go_fit (pairq_fail hQd l1.out hok.out.cuts rfl hok.out.there); rintro e V1 ⟨rfl, hX1⟩)
              | fail)
            refine hK.out _ _ (⟨pq_cell hX1 4 rfl, trivial⟩) (fun hHpc7 => ?_)
            clear hK K
            refine lat_one (i := 7) (by kernel_rfl) ?_
            refine lat_run (o := { dst := some 178, op := Go.Op.call { callee := Go.Callee.value (Go.Operand.func 21), args := #[Go.Operand.tmp 175, Go.Operand.tmp 177], argTypes := #[26, 38] }, type := 3, pos := "law.go:78", after := #[{ on := 4, ground := Go.Ground.data }, { on := 6, ground := Go.Ground.data }, { on := 3, ground := Go.Ground.chain }], guard := none }) rfl (fun K hK => ?_)
            go_simp
            go_wp2_with (first
              | (go_at_call 21; go_fit (rpairq_fail hX1 l2.out hok.out.cuts rfl hok.out.there); rintro e V2 ⟨rfl, hX2⟩)
              | fail)
            refine hK.out _ _ (⟨pq_cell hX2 4 rfl, trivial⟩) (fun hHpc8 => ?_)
            clear hK K
            refine lat_free (i := 8) (oi := { dst := some 179, op := Go.Op.binOp Go.BinOp.neq 3 (Go.Operand.tmp 174) (Go.Operand.tmp 178) 3, type := 4, pos := "law.go:78", after := #[{ on := 3, ground := Go.Ground.data }, { on := 7, ground := Go.Ground.data }], guard := none }) (v := ?vpc9) rfl (by kernel_rfl) (by kernel_rfl) (by kernel_rfl) (by kernel_rfl) (fun _ _ _ h => h) (Or.inl ⟨by rfl, ?hypc9⟩) ⟨hHpc8.1, fun _ => hHpc8.2⟩ ?restpc9
            case hypc9 => (intro w hAw; have q1 := hAw; go_simp; try (with_reducible rfl))
            simp only [Act.put, List.setIfInBounds_toArray, List.set_cons_zero, List.set_cons_succ]
            refine lat_done (by kernel_rfl) ?_ _
            go_wp2_with (fail)
            go_meet
            exact ⟨b, P2, R2, rfl, hX2.pair, hS2⟩
          by_cases k6 : K = 6
          · subst k6
            obtain ⟨r1, A1, h1⟩ : ∃ r A, failP P [] = (r, A) := ⟨_, _, rfl⟩
            have t4 : Hid (A1.float.length < 1000000) := (by have := (fail_len hS.sim.ok []).2; rw [h1] at this; rw [this]; decide : A1.float.length < 1000000)
            obtain ⟨r2, A2, h2⟩ : ∃ r A, storeP A1 0 (fillB notTwin) = (r, A) := ⟨_, _, rfl⟩
            obtain ⟨r3, A3, h3⟩ : ∃ r A, settleP A2 = (r, A) := ⟨_, _, rfl⟩
            have t1 : Hid (failP P [] = (r1, A1)) := h1
            have t2 : Hid (storeP A1 0 (fillB notTwin) = (r2, A2)) := h2
            have t3 : Hid (settleP A2 = (r3, A3)) := h3
            clear h1 h2 h3
            have hF : Hid (∀ W, Calls Try.prog 10 #[.string notTwin] W fun e w' => e = .returned (.string (fillB notTwin)) ∧ Grew W w') := fun W => fill_any W _
            generalize fillB notTwin = X at *
            go_wp2_with (first
              | (go_at_call 16; go_fit (pair_twin hQ.pair); rintro e V1 ⟨e9, rfl, hX1⟩)
              | (go_at_call 13; go_fit (trip_fail0 hX1 t1.out); rintro e V2 ⟨rfl, hX2⟩)
              | (go_at_call 10; go_fit (hF.out _); rintro e V3 ⟨rfl, G⟩; have hX3 := hX2.grew G)
              | (go_at_call 9; go_fit (trip_store hX3 t2.out t4.out); rintro e V4 ⟨rfl, hX4⟩)
              | (go_at_call 11; go_fit (trip_settle hX4 t3.out); rintro e V5 ⟨rfl, hX5⟩)
              | fail)
            go_meet
            exact ⟨e9, P, R, rfl, hX5.pair, hS.up⟩
          · go_wp2_with (fail)
            go_meet
            exact ⟨b, P, R, rfl, hQ.pair, hS.up⟩
        case rest =>
          clear hQ hS hP
          obtain ⟨b, P, R, rfl, hP, hS⟩ := hcut
          obtain ⟨a2, c2, f2, f1⟩ := hP.fields
          have q1 := hS.len
          have q2 := hS.sim.dead
          have q3 := hS.sim.float
          rw [q2] at f2
          rw [q3] at f1
          obtain ⟨dd, hdd⟩ : ∃ dd, P.dead = dd := ⟨_, rfl⟩
          obtain ⟨fl, hfl⟩ : ∃ fl, P.float.length = fl := ⟨_, rfl⟩
          rw [hdd] at f2
          rw [hfl] at f1
          clear q2 q3
          replace hdd : Hid (P.dead = dd) := hdd
          replace hfl : Hid ((P.float.length : Int) = (fl : Int)) := congrArg Nat.cast hfl
          replace q1 : Hid ((P.now.length : Int) = (k : Int)) := congrArg Nat.cast q1
          go_upto_region 45 with (fail)
          have hB3 := fun z => (hP.grew ((Grew.refl _).drewN z))
          go_quiet (first
            | (go_at_call 12; exact Calls.quiet_of_same (one_halted (hP.grew ((Grew.refl _).drewN _)).one hdd.out))
            | (go_at_call 14; exact Calls.quiet_of_same (one_afloat (hP.grew ((Grew.refl _).drewN _)).one hfl.out))
            | (go_at_call 15; exact Calls.quiet_of_same (one_pages (hP.grew ((Grew.refl _).drewN _)).one q1.out))
            | fail)
          go_wp2_with (fail)
          refine ⟨⟨j + 1, b, P, R, by omega, by simp, rfl, hB3 _, hS⟩, ?_⟩
          simp only [intOf]; omega
      · have hji : ¬ (j : Int) < m := by omega
        obtain ⟨r, P2, R2, l1, l2, hS2⟩ := hS.fail []
        replace l1 : Hid (failP P [] = (r, P2)) := l1
        replace l2 : Hid (failQ R [] = (r, R2)) := l2
        have hcN : Hid (Cuts w none []) := (⟨by simp, .inl rfl⟩ : Cuts w none [])
        go_wp2_with (first
          | (go_at_call 13; go_fit (pair_fail hP l1.out hcN.out rfl (fun _ _ e _ => by cases e)); rintro e V1 ⟨rfl, hX1⟩)
          | (go_at_call 21; go_fit (rpair_fail hX1 l2.out hcN.out rfl (fun _ _ e _ => by cases e)); rintro e V2 ⟨rfl, hX2⟩)
          | fail)
        go_loopw [18] (fun i wr => ∃ (i' : Nat), i' ≤ k ∧ i = .int .i64 i' ∧ Pair w wr b P2 d R2) (fun i _ => k - (intOf i).toNat)
        case atStart => exact ⟨0, by omega, rfl, hX2⟩
        case round =>
          clear hX2 hX1 hP hPB
          obtain ⟨i', hi', rfl, hX⟩ := hrel
          by_cases hlt2 : i' < k
          · have hki : (i' : Int) < k := by omega
            obtain ⟨x, r2, l3, l4⟩ := hS2.load (i' : Int)
            replace l3 : Hid (loadP P2 (i' : Int) = (x, r2)) := l3
            replace l4 : Hid (loadQ R2 (i' : Int) = (x, r2)) := l4
            go_wp2_with (first
              | (go_at_call 7; go_fit (one_load hX.one l3.out); rintro e w1 ⟨rfl, e⟩; have e := e.symm; subst e)
              | (go_at_call 17; go_fit (rpair_load hX l4.out); rintro e w1 ⟨rfl, e⟩; have e := e.symm; subst e)
              | fail)
            refine ⟨⟨i' + 1, hlt2, by simp, hX⟩, ?_⟩
            simp only [intOf]; omega
          · have hki : ¬ (i' : Int) < k := by omega
            go_wp2_with (fail)
            go_ret
            exact ⟨rfl, hX.below⟩

set_option maxRecDepth 100000 in
theorem lifted (os : Os) (started : os.Started) (H : Type) (enc : TypeId × Value → H) :
    ReturnsInHanded {} Try.checked os 3 .any (Rows.platterPlaysSpec.pre6 enc Try.prog Try.f3 Rows.platterPlaysRow.domain false) (Rows.platterPlaysSpec.post enc Try.prog Try.f3 false true false false) := by
  refine returnsInHanded_of_change (C := Try.checked) own started (by kernel_rfl) Try.func3
    (ChangeSpec.witness6 (enc := enc) (C := Try.checked) false ⟨#[], #[.int .i64 0, .slice none 0 0], []⟩ 8 (by kernel_rfl) (by kernel_rfl) (by kernel_rfl) (by kernel_rfl)) ?_
  intro W base args ds gs before hval0 hW hcnd _
  have hval : ∀ (j : Nat) t v, Try.f3.params[j]? = some t → args[j]? = some v → Value.okWide Try.prog W .any base t v := hval0
  have hW' := hW
  obtain ⟨p, q, hA0, hV, rfl, hfz, hnd⟩ := hW
  have hA : DataW.TrodAll enc Try.prog W 0 (fun _ => true) true Try.f3.params.toList args.toList ds p := hA0
  rw [Try.params3] at hA hval
  obtain ⟨v0, vs0, d0, ds0, p0, q0, hargs, rfl, rfl, h0, r0⟩ := trodAll_cons hA
  obtain ⟨v1, vs1, d1, ds1, p1, q1, rfl, rfl, rfl, h1, r1⟩ := trodAll_cons r0
  obtain ⟨rfl, rfl, rfl⟩ := trodAll_nil r1
  obtain rfl : args = #[v0, v1] := by cases args; simp_all
  obtain ⟨rfl, rfl⟩ := trodVars_none hV
  obtain ⟨a0, rfl, rfl, rfl, w0⟩ := open_int Try.underlying3 (hval 0 3 v0 rfl rfl) h0
  have f0 := inF_wf w0
  obtain ⟨a1, len1, cap1, rfl⟩ := okWide_slice Try.underlying22 (hval 1 22 v1 rfl rfl)
  have k1 := h1
  have lt1 : ∀ x ∈ p1, x.block < W.heap.size := by obtain ⟨m, hm⟩ := k1; exact DataW.trod_lt m _ _ _ hm
  obtain ⟨L1, rfl, b1⟩ := open_ops h1
  clear hA0 hval0
  refine (walk a0 f0 a1 cap1 L1 W  b1).mono fun e W' ⟨he, bel⟩ => ?_
  subst he
  exact ⟨_, rfl, _, _, _, [], _, [], hW', trodAll_mk1 (shut_bool Try.underlying4 _), (trodAll_cons_mk (shut_int Try.underlying3 w0) (trodAll_cons_mk (Below.trod laidOut (by kernel_rfl) (of_decide_eq_true (by kernel_rfl)) k1 bel lt1) trodAll_mk0)), rfl, bel.frame _, fun h => by cases h⟩

theorem over : Rows.platterPlaysRow.holds Try.pinned (OpenSpec.ofChange Rows.platterPlaysSpec) :=
  OpenClaim.holds_of_wide 3 Try.f3 rfl rfl rfl rfl rfl rfl rfl ⟨rfl, rfl, rfl, rfl, rfl⟩ rfl rfl rfl rfl rfl (by kernel_rfl) Try.func3 (by kernel_rfl)
    (of_decide_eq_true (by kernel_rfl)) (by unfold Func.isWrapper; first | (rw [if_pos (by decide +kernel)]; kernel_rfl) | (rw [if_neg (by decide +kernel)]; exact ⟨rfl, rfl⟩))
    (fun os started H enc _ => lifted os started H enc)

theorem proved : Rows.PlatterPlaysSaid :=
  over
end Go.Proofs.Ytedhgejkobdihaa.platterPlays

namespace Go.Proofs.Ytedhgejkobdihaa
theorem platterPlays_holds : Rows.PlatterPlaysSaid := platterPlays.proved
end Go.Proofs.Ytedhgejkobdihaa
