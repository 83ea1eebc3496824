/-
  Proved: maquettelaw12.WorldStill returns true for every bodies and number of steps (without gravity, joints and speed what does not touch stays as it is), and leaves what it was given as it was; no condition.
-/
import Derived.Test.YtcoooehcgbohgaaGreatRows
import Derived.Test.YtcoooehcgbohgaaGreatPxSStill
import Derived.Test.YtcoooehcgbohgaaGreatPk13
import Derived.Test.YtcoooehcgbohgaaGreatPk06
import Derived.Test.YtcoooehcgbohgaaGreatPxHRef4
import Derived.Test.YtcoooehcgbohgaaGreatPxBRef
import Derived.WalkKit
import Derived.Deep.QuietTactic
import Derived.BigQuiet
import Derived.WalkSpells
import Derived.Deep.CutRange
import Derived.Deep.CutBlock
import Derived.WalkLawsBesides
import Derived.ProofKit
import Derived.OpenShut
import Derived.ChangeOld
import Derived.Below
namespace Go.Proofs.YtcoooehcgbohgaaGreat.worldStill
open Go.ChangeShapes Go.WideShapes Go.ChangeAt Go.RowKit
set_option linter.unusedVariables false

theorem own : ownKnob Tryz.prog.godebug = none := by kernel_rfl
theorem laidOut : laidOutB Tryz.prog = true := by kernel_rfl

/-- What the loops have looked at. -/
structure Upto (M : List Bd) (k : Nat) : Prop where
  rest : ∀ j, j < k → ((bd M j).u = 0 ∧ (bd M j).v = 0) ∧ rightB (bd M j) = true
  apart : ∀ i j, i < j → j < k → (hitR (bd M i) (bd M j)).2 = 0 ∧ (hitR (bd M i) (bd M j)).1.2 = false
theorem Upto.set {M : List Bd} {k : Nat} (h : Upto M k) (B : Bd) : Upto (M.set k B) k :=
  ⟨fun j hj => by rw [bd_far (by omega)]; exact h.rest j hj, fun i j hi hj => by rw [bd_far (by omega), bd_far (by omega)]; exact h.apart i j hi hj⟩
theorem Upto.more {M : List Bd} {k : Nat} (h : Upto M k) (hr : ((bd M k).u = 0 ∧ (bd M k).v = 0) ∧ rightB (bd M k) = true) (ha : ∀ i, i < k → (hitR (bd M i) (bd M k)).2 = 0 ∧ (hitR (bd M i) (bd M k)).1.2 = false) : Upto M (k + 1) := by
  refine ⟨fun j hj => ?_, fun i j hi hj => ?_⟩
  · by_cases e : j = k
    · rw [e]; exact hr
    · exact h.rest j (by omega)
  · by_cases e : j = k
    · rw [e] at hi ⊢; exact ha i hi
    · exact h.apart i j hi (by omega)
theorem Upto.calm {M : List Bd} (h : Upto M M.length) (ok : ∀ z ∈ M, z.ok) : Calm M := by
  refine ⟨ok, ?_, fun i hi => (h.rest i hi).1, fun i j hi hj => h.apart i j hi hj⟩
  rw [List.all_eq_true]
  intro B hB
  obtain ⟨i, hi, rfl⟩ := List.mem_iff_getElem.1 hB
  have := (h.rest i hi).2
  rw [show bd M i = M[i] by simp [bd, List.getD, hi]] at this
  exact this
theorem own_row {w : World} {base n c : Nat} {a : Option Addr} {L : List Bd} (h : w.ownsRow base 28 8 (.slice a n c) n (L.flatMap Bd.row)) (hn : L.length = n) (hok : ∀ z ∈ L, z.ok) : ∃ g, Own w base a g c L := by
  subst hn
  have h2 := h
  rcases h.2 with ⟨e, h0⟩ | ⟨g, cap, cur, e, hb, hg, r⟩
  · simp only [Value.slice.injEq] at e
    obtain ⟨rfl, _, rfl⟩ := e
    exact ⟨0, hok, h2, .inl ⟨rfl, List.eq_nil_of_length_eq_zero h0⟩⟩
  · cases e
    exact ⟨g, hok, h2, .inr rfl⟩

set_option maxRecDepth 100000 in
set_option maxHeartbeats 16000000 in
theorem walk (a0 : Option Addr) (cap0 : Nat) (L0 : List Bd) (a1 : Int) (f1 : inF a1) (w : World) (b0 : Bodies w a0 L0) :
    Calls Tryz.prog 3 #[.slice a0 L0.length cap0, .int .i64 a1] w fun e w' => e = .returned (.bool true) ∧ Below w.heap.size w w' := by
  obtain ⟨i0, hi0, hz0, hz1, hz2⟩ := info_parts body_info
  by_cases hc : L0.length ≤ 10 ∧ 0 ≤ a1 ∧ a1 ≤ 12
  rotate_left
  · clear b0
    by_cases c1 : 10 < (L0.length : Int)
    all_goals (try by_cases c3 : a1 < 0)
    all_goals (try by_cases c4 : 12 < a1)
    all_goals first
      | (exfalso; omega)
      | (clear hc f1
         go_enter Tryz.func3, Tryz.ntmps3
         go_wp2_with (first
           | (go_at_call 4; go_fit (alive_any _); rintro e V1 ⟨rfl, U1⟩))
         go_ret
         exact ⟨rfl, U1⟩)
  obtain ⟨hl1, h0, h1⟩ := hc
  obtain ⟨n, rfl⟩ : ∃ n : Nat, a1 = n := ⟨a1.toNat, by omega⟩
  have c1 : ¬ 10 < (L0.length : Int) := by omega
  have c2 : ¬ (n : Int) < 0 := by omega
  have c3 : ¬ 12 < (n : Int) := by omega
  have HB : Hid (∀ W, Below w.heap.size w W → Reads W a0 (L0.flatMap Bd.row)) := fun W h => bodies_reads (b0.below h)
  have HOK : Hid (∀ z ∈ L0, z.ok) := b0.ok
  have HFL : Hid ((L0.flatMap Bd.row).length = L0.length * 8) := flat_len Bd.row 8 (fun _ => rfl) L0
  obtain ⟨xs, hxs⟩ : ∃ xs, xs = L0.flatMap Bd.row := ⟨_, rfl⟩
  have HOne : Hid (∀ u ∈ L0.flatMap Bd.row, u.oneCell' = true) := one_body L0
  rw [← hxs] at HB HFL HOne
  replace hxs : Hid (xs = L0.flatMap Bd.row) := hxs
  obtain ⟨l, hl⟩ : ∃ l, l = L0.length := ⟨_, rfl⟩
  rw [← hl] at hl1 c1 HFL ⊢
  replace hl : Hid (l = L0.length) := hl
  clear b0 f1
  go_enter Tryz.func3, Tryz.ntmps3
  go_wp2_with (first
    | (go_at_call 4; go_fit (alive_any _); rintro e V1 ⟨rfl, U1⟩)
    | (at_builtin; refine wpList_app _ rfl (.const (.slice none 0 0)) (.tmp 30) 22 rfl w.heap.size 28 i0 _ 8 64 Tryz.underlying22 hi0 hz0 hz1 hz2 rfl (by decide) (.slice none 0 0) 0 [] rfl (World.ownsRow_nil _ _ _ _) a0 l cap0 xs rfl HFL.out (HB.out _ U1) HOne.out (by unfold maxLen; omega) (by omega) U1.size ?_; intro v1 w1 ho1 hg1 _ _; (rw [Nat.zero_add, List.nil_append] at ho1); obtain ⟨am, cm, rfl, _⟩ := own_reads ho1))
  rw [hxs.out] at ho1
  obtain ⟨g, hO⟩ := own_row ho1 hl.out.symm HOK.out
  have hB : Below w.heap.size w w1 := U1.grown hg1 U1.size (fun k h => by simp [Value.ownBlock] at h)
  clear ho1 hg1 U1 HB HOne HFL
  go_loopw [34] (fun i wr => ∃ (k : Nat) (M : List Bd), k ≤ l ∧ i = .int .i64 k ∧ M.length = l ∧ Own wr w.heap.size am g cm M ∧ Upto M k ∧ Below w.heap.size w wr) (fun i _ => l - (intOf i).toNat)
  case atStart => exact ⟨0, L0, by omega, rfl, hl.out.symm, hO, ⟨fun j h => by omega, fun i j _ h => by omega⟩, hB⟩
  case round =>
    clear hO hB
    obtain ⟨k, M, hk, rfl, hM, hO, hU, hB⟩ := hrel
    by_cases hlt : k < l
    · have hi : (k : Int) < (l : Int) := by omega
      have hkM : k < M.length := by omega
      obtain rfl := hO.got hkM
      obtain ⟨c0, c1', c2', c3', c4, c5, c6, c7⟩ := hO.cells hkM
      have z6 := hO.free hkM (k * 8 + 6)
      have z7 := hO.free hkM (k * 8 + 7)
      clear c0 c1' c2' c3' c4 c5
      obtain ⟨B, hBd⟩ : ∃ B, B = (bd M k).mom 0 0 := ⟨_, rfl⟩
      have hO1 := hO.mom hkM inF0 inF0
      rw [← hBd] at hO1
      have okB : B.ok := hO1.ok _ (by have := bd_mem (L := M.set k B) (i := k) (by simpa using hkM); rwa [bd_set hkM] at this)
      have hrest : B.u = 0 ∧ B.v = 0 := by rw [hBd]; exact ⟨rfl, rfl⟩
      have hB1 : Below w.heap.size w ((wr.setCell ⟨g, k * 8 + 6, none⟩ (.int .i64 0)).setCell ⟨g, k * 8 + 7, none⟩ (.int .i64 0)) := by
        have hg := (hO.lt hkM).1
        exact hB.trans ⟨rfl, rfl, rfl, by simp [World.setCell], fun j hj => by rw [Below.heap_setCell _ _ _ _ (by simp; omega), Below.heap_setCell _ _ _ _ (by simp; omega)]⟩
      replace hO1 : Hid (Own ((wr.setCell ⟨g, k * 8 + 6, none⟩ (.int .i64 0)).setCell ⟨g, k * 8 + 7, none⟩ (.int .i64 0)) w.heap.size (some ⟨g, 0, none⟩) g cm (M.set k B)) := hO1
      replace hB1 : Hid (Below w.heap.size w ((wr.setCell ⟨g, k * 8 + 6, none⟩ (.int .i64 0)).setCell ⟨g, k * 8 + 7, none⟩ (.int .i64 0))) := hB1
      have hU1 : Hid (Upto (M.set k B) k) := hU.set B
      clear hU
      go_upto_region 8 with (fail)
      have hbk : BatO ((wr.setCell ⟨g, k * 8 + 6, none⟩ (.int .i64 0)).setCell ⟨g, k * 8 + 7, none⟩ (.int .i64 0)) g (k * 8) B := by
        have := hO1.out.cells (i := k) (by simpa using hkM)
        rwa [bd_set hkM] at this
      have hbm : bd (M.set k B) k = B := bd_set hkM B
      have hMl : (M.set k B).length = l := by simpa using hM
      generalize (wr.setCell ⟨g, k * 8 + 6, none⟩ (.int .i64 0)).setCell ⟨g, k * 8 + 7, none⟩ (.int .i64 0) = W1 at *
      generalize M.set k B = N at *
      clear c6 c7 z6 z7 hO hB hBd hkM hM M
      have HRt : Hid (∀ W, Calls Tryz.prog 5 #[.agg #[.int .i64 B.s, .int .i64 B.a, .int .i64 B.b, .int .i64 B.m, .int .i64 B.p, .int .i64 B.q, .int .i64 B.u, .int .i64 B.v]] W fun e w' => e = .returned (.bool (rightB B)) ∧ Grew W w') := fun W => ref_right B W
      replace hrest : Hid (B.u = 0 ∧ B.v = 0) := hrest
      replace okB : Hid B.ok := okB
      replace hbm : Hid (bd N k = B) := hbm
      replace hMl : Hid (N.length = l) := hMl
      obtain ⟨c0, c1', c2', c3', c4, c5, c6, c7⟩ := hbk
      by_cases hr : rightB B = true
      rotate_left
      · have hr' : rightB B = false := by simpa using hr
        rw [hr'] at HRt
        go_wp2_with (first
          | (go_at_call 5; go_fit (HRt.out _); rintro e V2 ⟨rfl, G2⟩))
        go_ret
        exact ⟨rfl, hB1.out.trans (G2.below.mono hB1.out.size)⟩
      rw [hr] at HRt
      go_wp2_with (first
        | (go_at_call 5; go_fit (HRt.out _); rintro e V2 ⟨rfl, G2⟩))
      have hO2 := hO1.out.grew G2
      have hB2 := hB1.out.trans (G2.below.mono hB1.out.size)
      clear c0 c1' c2' c3' c4 c5 c6 c7 hO1 hB1
      go_loopw [7] (fun i wq => ∃ (q : Nat), q ≤ k ∧ i = .int .i64 q ∧ Own wq w.heap.size (some ⟨g, 0, none⟩) g cm N ∧ Below w.heap.size w wq ∧ Hid (∀ j, j < q → (hitR (bd N j) B).2 = 0 ∧ (hitR (bd N j) B).1.2 = false)) (fun i _ => k - (intOf i).toNat)
      case atStart => exact ⟨0, by omega, rfl, hO2, hB2, fun j h => by omega⟩
      case round =>
        clear hO2 hB2

        obtain ⟨q, hq, rfl, hO3, hB3, hh⟩ := hrel
        by_cases hqt : q < k
        · have hqi : (q : Int) < (k : Int) := by omega
          have hNl := hMl.out
          have hqN : q < N.length := by omega
          have hkN : k < N.length := by omega
          have hBq : Hid (BatO wr g (q * 8) (bd N q)) := hO3.cells hqN
          have hBk : Hid (BatO wr g (k * 8) B) := by have := hO3.cells hkN; rwa [hbm.out] at this
          have okq : Hid (bd N q).ok := hO3.ok _ (bd_mem hqN)
          obtain ⟨Bq, hbq⟩ : ∃ Bq, bd N q = Bq := ⟨_, rfl⟩
          rw [hbq] at hBq okq
          replace hbq : Hid (bd N q = Bq) := hbq
          obtain ⟨r, HR⟩ : ∃ r, hitR Bq B = r := ⟨_, rfl⟩
          replace HR : Hid (hitR Bq B = r) := HR
          have hwq : wrap64 ((q : Int) + 1) = q + 1 := IntWalk.wrap64_in _ ⟨by omega, by omega⟩
          have hqi2 : (q : Int) < l := by omega
          have GX : Hid (Grew wr (wr.alloc (.cells #[.int .i64 0] 32))) := (Grew.refl wr).alloc _ _
          have HX : Hid (Err (wr.alloc (.cells #[.int .i64 0] 32)) wr.heap.size 0 0) := ⟨by simp [go_sem], by simp [go_sem]⟩
          have hXs : (wr.alloc (.cells #[.int .i64 0] 32)).heap.size = wr.heap.size + 1 := by simp
          clear hqN hkN hNl HRt
          go_upto_region 14 with (fail)
          generalize wr.alloc (.cells #[.int .i64 0] 32) = X at *
          obtain ⟨c, hcc⟩ : ∃ c, c = wr.heap.size := ⟨_, rfl⟩
          rw [← hcc] at HX hXs ⊢
          have hcs : wr.heap.size ≤ c := Nat.le_of_eq hcc.symm
          clear hcc
          refine lat_region (A := (fun w' => Grew wr w')) (S := (fun w' => Err w' c 0 0)) [8] (by kernel_rfl) ?_ (fun hH0 => ?_)
          · exact ⟨GX.out.drew, HX.out.grew (Grew.refl _).drew⟩
          refine lat_free (i := 0) (oi := { dst := some 54, op := Go.Op.move (Go.Operand.tmp 5), type := 22, pos := "more.go:25", after := #[], guard := none }) (v := ?va1) rfl (by kernel_rfl) (by kernel_rfl) (by kernel_rfl) (by kernel_rfl) (fun _ _ _ h => h) (Or.inl ⟨by rfl, ?hya1⟩) ⟨hH0.1, fun _ => hH0.2⟩ ?resta1
          case hya1 => (intro w hAw; obtain ⟨p0, p1, p2, p3, p4, p5, p6, p7⟩ := hBq.out.grew hAw; obtain ⟨q0, q1, q2, q3, q4, q5, q6, q7⟩ := hBk.out.grew hAw; clear hAw; go_simp; try (with_reducible rfl))
          simp only [Act.put, List.setIfInBounds_toArray, List.set_cons_zero, List.set_cons_succ]
          refine lat_free (i := 1) (oi := { dst := some 55, op := Go.Op.move (Go.Operand.tmp 7), type := 3, pos := "more.go:25", after := #[], guard := none }) (v := ?va2) rfl (by kernel_rfl) (by kernel_rfl) (by kernel_rfl) (by kernel_rfl) (fun _ _ _ h => h) (Or.inl ⟨by rfl, ?hya2⟩) ⟨hH0.1, fun _ => hH0.2⟩ ?resta2
          case hya2 => (intro w hAw; obtain ⟨p0, p1, p2, p3, p4, p5, p6, p7⟩ := hBq.out.grew hAw; obtain ⟨q0, q1, q2, q3, q4, q5, q6, q7⟩ := hBk.out.grew hAw; clear hAw; go_simp; try (with_reducible rfl))
          simp only [Act.put, List.setIfInBounds_toArray, List.set_cons_zero, List.set_cons_succ]
          refine lat_free (i := 2) (oi := { dst := some 56, op := Go.Op.indexAddr 22 (Go.Operand.tmp 54) (Go.Operand.tmp 55), type := 0, pos := "more.go:25", after := #[{ on := 0, ground := Go.Ground.data }, { on := 1, ground := Go.Ground.data }], guard := none }) (v := ?va3) rfl (by kernel_rfl) (by kernel_rfl) (by kernel_rfl) (by kernel_rfl) (fun _ _ _ h => h) (Or.inl ⟨by rfl, ?hya3⟩) ⟨hH0.1, fun _ => hH0.2⟩ ?resta3
          case hya3 => (intro w hAw; obtain ⟨p0, p1, p2, p3, p4, p5, p6, p7⟩ := hBq.out.grew hAw; obtain ⟨q0, q1, q2, q3, q4, q5, q6, q7⟩ := hBk.out.grew hAw; clear hAw; go_simp; try (with_reducible rfl))
          simp only [Act.put, List.setIfInBounds_toArray, List.set_cons_zero, List.set_cons_succ]
          refine lat_free (i := 3) (oi := { dst := some 57, op := Go.Op.load 28 (Go.Operand.tmp 56), type := 28, pos := "more.go:25", after := #[{ on := 2, ground := Go.Ground.data }], guard := none }) (v := ?va4) rfl (by kernel_rfl) (by kernel_rfl) (by kernel_rfl) (by kernel_rfl) (fun _ _ _ h => h) (Or.inl ⟨by rfl, ?hya4⟩) ⟨hH0.1, fun _ => hH0.2⟩ ?resta4
          case hya4 => (intro w hAw; obtain ⟨p0, p1, p2, p3, p4, p5, p6, p7⟩ := hBq.out.grew hAw; obtain ⟨q0, q1, q2, q3, q4, q5, q6, q7⟩ := hBk.out.grew hAw; clear hAw; go_simp; try (with_reducible rfl))
          simp only [Act.put, List.setIfInBounds_toArray, List.set_cons_zero, List.set_cons_succ]
          refine lat_free (i := 4) (oi := { dst := some 58, op := Go.Op.move (Go.Operand.tmp 5), type := 22, pos := "more.go:25", after := #[], guard := none }) (v := ?va5) rfl (by kernel_rfl) (by kernel_rfl) (by kernel_rfl) (by kernel_rfl) (fun _ _ _ h => h) (Or.inl ⟨by rfl, ?hya5⟩) ⟨hH0.1, fun _ => hH0.2⟩ ?resta5
          case hya5 => (intro w hAw; obtain ⟨p0, p1, p2, p3, p4, p5, p6, p7⟩ := hBq.out.grew hAw; obtain ⟨q0, q1, q2, q3, q4, q5, q6, q7⟩ := hBk.out.grew hAw; clear hAw; go_simp; try (with_reducible rfl))
          simp only [Act.put, List.setIfInBounds_toArray, List.set_cons_zero, List.set_cons_succ]
          refine lat_free (i := 5) (oi := { dst := some 59, op := Go.Op.move (Go.Operand.tmp 6), type := 3, pos := "more.go:25", after := #[], guard := none }) (v := ?va6) rfl (by kernel_rfl) (by kernel_rfl) (by kernel_rfl) (by kernel_rfl) (fun _ _ _ h => h) (Or.inl ⟨by rfl, ?hya6⟩) ⟨hH0.1, fun _ => hH0.2⟩ ?resta6
          case hya6 => (intro w hAw; obtain ⟨p0, p1, p2, p3, p4, p5, p6, p7⟩ := hBq.out.grew hAw; obtain ⟨q0, q1, q2, q3, q4, q5, q6, q7⟩ := hBk.out.grew hAw; clear hAw; go_simp; try (with_reducible rfl))
          simp only [Act.put, List.setIfInBounds_toArray, List.set_cons_zero, List.set_cons_succ]
          refine lat_free (i := 6) (oi := { dst := some 60, op := Go.Op.indexAddr 22 (Go.Operand.tmp 58) (Go.Operand.tmp 59), type := 0, pos := "more.go:25", after := #[{ on := 4, ground := Go.Ground.data }, { on := 5, ground := Go.Ground.data }], guard := none }) (v := ?va7) rfl (by kernel_rfl) (by kernel_rfl) (by kernel_rfl) (by kernel_rfl) (fun _ _ _ h => h) (Or.inl ⟨by rfl, ?hya7⟩) ⟨hH0.1, fun _ => hH0.2⟩ ?resta7
          case hya7 => (intro w hAw; obtain ⟨p0, p1, p2, p3, p4, p5, p6, p7⟩ := hBq.out.grew hAw; obtain ⟨q0, q1, q2, q3, q4, q5, q6, q7⟩ := hBk.out.grew hAw; clear hAw; go_simp; try (with_reducible rfl))
          simp only [Act.put, List.setIfInBounds_toArray, List.set_cons_zero, List.set_cons_succ]
          refine lat_free (i := 7) (oi := { dst := some 61, op := Go.Op.load 28 (Go.Operand.tmp 60), type := 28, pos := "more.go:25", after := #[{ on := 6, ground := Go.Ground.data }], guard := none }) (v := ?va8) rfl (by kernel_rfl) (by kernel_rfl) (by kernel_rfl) (by kernel_rfl) (fun _ _ _ h => h) (Or.inl ⟨by rfl, ?hya8⟩) ⟨hH0.1, fun _ => hH0.2⟩ ?resta8
          case hya8 => (intro w hAw; obtain ⟨p0, p1, p2, p3, p4, p5, p6, p7⟩ := hBq.out.grew hAw; obtain ⟨q0, q1, q2, q3, q4, q5, q6, q7⟩ := hBk.out.grew hAw; clear hAw; go_simp; try (with_reducible rfl))
          simp only [Act.put, List.setIfInBounds_toArray, List.set_cons_zero, List.set_cons_succ]
          refine lat_two (i := 8) (k := 12) (by kernel_rfl) ?_ ?_
          · refine lat_write (o := { dst := some 62, op := Go.Op.call { callee := Go.Callee.value (Go.Operand.func 6), args := #[Go.Operand.tmp 8, Go.Operand.tmp 57, Go.Operand.tmp 61], argTypes := #[32, 28, 28] }, type := 35, pos := "more.go:25", after := #[{ on := 3, ground := Go.Ground.data }, { on := 7, ground := Go.Ground.data }], guard := none }) rfl (by kernel_rfl) (fun K hK => ?_)
            go_simp
            go_wp2_with (first
              | (go_at_call 6; go_fit (rhit_any c Bq B okq.out okB.out _ (hH0).2); rintro e V ⟨he, E1, U1⟩; have G1 : Hid (Grew wr V) := U1.grew wr hcs (hH0).1; unfold okH at he; rw [HR.out] at he E1; subst he)
              | fail)
            refine hK.out _ _ (G1.out) (fun hHa9 => ?_)
            clear hK K
            refine lat_free2 (i := 9) (oi := { dst := some 53, op := Go.Op.move (Go.Operand.tmp 62), type := 35, pos := "more.go:25", after := #[{ on := 8, ground := Go.Ground.data }], guard := none }) (v := ?va10) rfl (by kernel_rfl) (by kernel_rfl) (by kernel_rfl) (by kernel_rfl) (by kernel_rfl) (fun _ _ _ h => h) (Or.inl ⟨by rfl, ?hya10⟩) hHa9 ?resta10
            case hya10 => (intro w hAw; obtain ⟨p0, p1, p2, p3, p4, p5, p6, p7⟩ := hBq.out.grew hAw; obtain ⟨q0, q1, q2, q3, q4, q5, q6, q7⟩ := hBk.out.grew hAw; clear hAw; go_simp; try (with_reducible rfl))
            simp only [Act.put, List.setIfInBounds_toArray, List.set_cons_zero, List.set_cons_succ]
            refine lat_free2 (i := 10) (oi := { dst := some 63, op := Go.Op.extract (Go.Operand.tmp 53) 0, type := 34, pos := "more.go:25", after := #[{ on := 9, ground := Go.Ground.data }], guard := none }) (v := ?va11) rfl (by kernel_rfl) (by kernel_rfl) (by kernel_rfl) (by kernel_rfl) (by kernel_rfl) (fun _ _ _ h => h) (Or.inl ⟨by rfl, ?hya11⟩) hHa9 ?resta11
            case hya11 => (intro w hAw; obtain ⟨p0, p1, p2, p3, p4, p5, p6, p7⟩ := hBq.out.grew hAw; obtain ⟨q0, q1, q2, q3, q4, q5, q6, q7⟩ := hBk.out.grew hAw; clear hAw; go_simp; try (with_reducible rfl))
            simp only [Act.put, List.setIfInBounds_toArray, List.set_cons_zero, List.set_cons_succ]
            refine lat_free2 (i := 11) (oi := { dst := some 64, op := Go.Op.extract (Go.Operand.tmp 53) 1, type := 4, pos := "more.go:25", after := #[{ on := 9, ground := Go.Ground.data }, { on := 13, ground := Go.Ground.gcOnly Go.Departure.lateStores }], guard := none }) (v := ?va12) rfl (by kernel_rfl) (by kernel_rfl) (by kernel_rfl) (by kernel_rfl) (by kernel_rfl) (fun _ _ _ h => h) (Or.inl ⟨by rfl, ?hya12⟩) hHa9 ?resta12
            case hya12 => (intro w hAw; obtain ⟨p0, p1, p2, p3, p4, p5, p6, p7⟩ := hBq.out.grew hAw; obtain ⟨q0, q1, q2, q3, q4, q5, q6, q7⟩ := hBk.out.grew hAw; clear hAw; go_simp; try (with_reducible rfl))
            simp only [Act.put, List.setIfInBounds_toArray, List.set_cons_zero, List.set_cons_succ]
            refine lat_one (i := 12) (by kernel_rfl) ?_
            refine lat_write (o := { dst := some 9, op := Go.Op.alloc 34, type := 0, pos := "more.go:25", after := #[], guard := none }) rfl (by kernel_rfl) (fun K hK => ?_)
            obtain ⟨GL⟩ : Nonempty (PLift (Grew wr V)) := ⟨⟨hHa9⟩⟩
            go_simp
            refine hK.out _ _ ((Grew.alloc GL.down _ _)) (fun hHa13 => ?_)
            clear hK K
            refine lat_one (i := 13) (by kernel_rfl) ?_
            refine lat_write (o := { dst := none, op := Go.Op.store 34 (Go.Operand.tmp 9) (Go.Operand.tmp 63), type := 0, pos := "more.go:25", after := #[{ on := 12, ground := Go.Ground.data }, { on := 10, ground := Go.Ground.data }, { on := 8, ground := Go.Ground.chain }, { on := 0, ground := Go.Ground.phase }, { on := 1, ground := Go.Ground.phase }, { on := 2, ground := Go.Ground.phase }, { on := 3, ground := Go.Ground.phase }, { on := 4, ground := Go.Ground.phase }, { on := 5, ground := Go.Ground.phase }, { on := 6, ground := Go.Ground.phase }, { on := 7, ground := Go.Ground.phase }, { on := 8, ground := Go.Ground.phase }, { on := 9, ground := Go.Ground.phase }, { on := 10, ground := Go.Ground.phase }, { on := 11, ground := Go.Ground.textOnly Go.Departure.lateStores }, { on := 12, ground := Go.Ground.phase }], guard := none }) rfl (by kernel_rfl) (fun K hK => ?_)
            have ec := E1.1
            have hcl := cell_block ec
            have hvs : wr.heap.size ≤ V.heap.size := by (simp only at hcl); omega
            go_simp
            refine hK.out _ _ ((by first | exact ((((hHa13).setCell (a := ⟨V.heap.size, 0, none⟩) hvs _).setCell (a := ⟨V.heap.size, 1, none⟩) hvs _).setCell (a := ⟨V.heap.size, 2, none⟩) hvs _) | exact (Grew.alloc GL.down _ _))) (fun hHa14 => ?_)
            clear hK K
            refine lat_free2 (i := 14) (oi := { dst := some 10, op := Go.Op.assign (Go.Operand.tmp 64), type := 4, pos := "more.go:25", after := #[{ on := 11, ground := Go.Ground.data }, { on := 13, ground := Go.Ground.chain }, { on := 0, ground := Go.Ground.phase }, { on := 1, ground := Go.Ground.phase }, { on := 2, ground := Go.Ground.phase }, { on := 3, ground := Go.Ground.phase }, { on := 4, ground := Go.Ground.phase }, { on := 5, ground := Go.Ground.phase }, { on := 6, ground := Go.Ground.phase }, { on := 7, ground := Go.Ground.phase }, { on := 8, ground := Go.Ground.phase }, { on := 9, ground := Go.Ground.phase }, { on := 10, ground := Go.Ground.phase }, { on := 11, ground := Go.Ground.phase }, { on := 12, ground := Go.Ground.phase }, { on := 13, ground := Go.Ground.phase }], guard := none }) (v := ?va15) rfl (by kernel_rfl) (by kernel_rfl) (by kernel_rfl) (by kernel_rfl) (by kernel_rfl) (fun _ _ _ h => h) (Or.inl ⟨by rfl, ?hya15⟩) hHa14 ?resta15
            case hya15 => (intro w hAw; obtain ⟨p0, p1, p2, p3, p4, p5, p6, p7⟩ := hBq.out.grew hAw; obtain ⟨q0, q1, q2, q3, q4, q5, q6, q7⟩ := hBk.out.grew hAw; clear hAw; go_simp; try (with_reducible rfl))
            simp only [Act.put, List.setIfInBounds_toArray, List.set_cons_zero, List.set_cons_succ]
            refine lat_done (by kernel_rfl) ?_ _
            have GF : Hid (Grew wr _) := hHa14
            by_cases ho : r.1.2 = true
            · go_wp2_with (fail)
              go_ret
              exact ⟨rfl, hB3.trans (GF.out.below.mono hB3.size)⟩
            · have ho' : r.1.2 = false := by simpa using ho
              by_cases hE : r.2 = 0
              rotate_left
              · have hne : (r.2 != 0) = true := by simpa using hE
                clear hE
                go_wp2_with (fail)
                go_ret
                exact ⟨rfl, hB3.trans (GF.out.below.mono hB3.size)⟩
              · have hnew : Hid (∀ j, j < q + 1 → (hitR (bd N j) B).2 = 0 ∧ (hitR (bd N j) B).1.2 = false) := fun j hj => by
                  by_cases e : j = q
                  · rw [e, hbq.out, HR.out]; exact ⟨hE, ho'⟩
                  · exact hh.out j (by omega)
                go_wp2_with (fail)
                refine ⟨⟨q + 1, hqt, by simp, hO3.grew GF.out, hB3.trans (GF.out.below.mono hB3.size), hnew⟩, ?_⟩
                simp only [intOf]; omega
          · refine lat_run (o := { dst := some 9, op := Go.Op.alloc 34, type := 0, pos := "more.go:25", after := #[], guard := none }) rfl (fun K hK => ?_)
            go_simp
            refine hK.out _ _ (⟨(hH0.1).alloc _ _, hH0.2.grew ((Grew.refl _).alloc _ _)⟩) (fun hHa16 => ?_)
            clear hK K
            refine lat_one (i := 8) (by kernel_rfl) ?_
            refine lat_write (o := { dst := some 62, op := Go.Op.call { callee := Go.Callee.value (Go.Operand.func 6), args := #[Go.Operand.tmp 8, Go.Operand.tmp 57, Go.Operand.tmp 61], argTypes := #[32, 28, 28] }, type := 35, pos := "more.go:25", after := #[{ on := 3, ground := Go.Ground.data }, { on := 7, ground := Go.Ground.data }], guard := none }) rfl (by kernel_rfl) (fun K hK => ?_)
            go_simp
            go_wp2_with (first
              | (go_at_call 6; go_fit (rhit_any c Bq B okq.out okB.out _ (hHa16).2); rintro e V ⟨he, E1, U1⟩; have G1 : Hid (Grew wr V) := U1.grew wr hcs (hHa16).1; unfold okH at he; rw [HR.out] at he E1; subst he)
              | fail)
            refine hK.out _ _ (G1.out) (fun hHa17 => ?_)
            clear hK K
            refine lat_free2 (i := 9) (oi := { dst := some 53, op := Go.Op.move (Go.Operand.tmp 62), type := 35, pos := "more.go:25", after := #[{ on := 8, ground := Go.Ground.data }], guard := none }) (v := ?va18) rfl (by kernel_rfl) (by kernel_rfl) (by kernel_rfl) (by kernel_rfl) (by kernel_rfl) (fun _ _ _ h => h) (Or.inl ⟨by rfl, ?hya18⟩) hHa17 ?resta18
            case hya18 => (intro w hAw; obtain ⟨p0, p1, p2, p3, p4, p5, p6, p7⟩ := hBq.out.grew hAw; obtain ⟨q0, q1, q2, q3, q4, q5, q6, q7⟩ := hBk.out.grew hAw; clear hAw; go_simp; try (with_reducible rfl))
            simp only [Act.put, List.setIfInBounds_toArray, List.set_cons_zero, List.set_cons_succ]
            refine lat_free2 (i := 10) (oi := { dst := some 63, op := Go.Op.extract (Go.Operand.tmp 53) 0, type := 34, pos := "more.go:25", after := #[{ on := 9, ground := Go.Ground.data }], guard := none }) (v := ?va19) rfl (by kernel_rfl) (by kernel_rfl) (by kernel_rfl) (by kernel_rfl) (by kernel_rfl) (fun _ _ _ h => h) (Or.inl ⟨by rfl, ?hya19⟩) hHa17 ?resta19
            case hya19 => (intro w hAw; obtain ⟨p0, p1, p2, p3, p4, p5, p6, p7⟩ := hBq.out.grew hAw; obtain ⟨q0, q1, q2, q3, q4, q5, q6, q7⟩ := hBk.out.grew hAw; clear hAw; go_simp; try (with_reducible rfl))
            simp only [Act.put, List.setIfInBounds_toArray, List.set_cons_zero, List.set_cons_succ]
            refine lat_free2 (i := 11) (oi := { dst := some 64, op := Go.Op.extract (Go.Operand.tmp 53) 1, type := 4, pos := "more.go:25", after := #[{ on := 9, ground := Go.Ground.data }, { on := 13, ground := Go.Ground.gcOnly Go.Departure.lateStores }], guard := none }) (v := ?va20) rfl (by kernel_rfl) (by kernel_rfl) (by kernel_rfl) (by kernel_rfl) (by kernel_rfl) (fun _ _ _ h => h) (Or.inl ⟨by rfl, ?hya20⟩) hHa17 ?resta20
            case hya20 => (intro w hAw; obtain ⟨p0, p1, p2, p3, p4, p5, p6, p7⟩ := hBq.out.grew hAw; obtain ⟨q0, q1, q2, q3, q4, q5, q6, q7⟩ := hBk.out.grew hAw; clear hAw; go_simp; try (with_reducible rfl))
            simp only [Act.put, List.setIfInBounds_toArray, List.set_cons_zero, List.set_cons_succ]
            refine lat_one (i := 13) (by kernel_rfl) ?_
            refine lat_write (o := { dst := none, op := Go.Op.store 34 (Go.Operand.tmp 9) (Go.Operand.tmp 63), type := 0, pos := "more.go:25", after := #[{ on := 12, ground := Go.Ground.data }, { on := 10, ground := Go.Ground.data }, { on := 8, ground := Go.Ground.chain }, { on := 0, ground := Go.Ground.phase }, { on := 1, ground := Go.Ground.phase }, { on := 2, ground := Go.Ground.phase }, { on := 3, ground := Go.Ground.phase }, { on := 4, ground := Go.Ground.phase }, { on := 5, ground := Go.Ground.phase }, { on := 6, ground := Go.Ground.phase }, { on := 7, ground := Go.Ground.phase }, { on := 8, ground := Go.Ground.phase }, { on := 9, ground := Go.Ground.phase }, { on := 10, ground := Go.Ground.phase }, { on := 11, ground := Go.Ground.textOnly Go.Departure.lateStores }, { on := 12, ground := Go.Ground.phase }], guard := none }) rfl (by kernel_rfl) (fun K hK => ?_)
            have ec := E1.1
            have hcl := cell_block ec
            have hvs : wr.heap.size ≤ V.heap.size := by (simp only at hcl); omega
            have hps := U1.size
            have hpn : c + 1 ≠ c := by omega
            have k0 : V.cell? ⟨c + 1, 0, none⟩ = some (.int .i64 0) := U1.cell (p := ⟨c + 1, 0, none⟩) hpn (by simp [go_sem, hXs])
            have k1 : V.cell? ⟨c + 1, 1, none⟩ = some (.int .i64 0) := U1.cell (p := ⟨c + 1, 1, none⟩) hpn (by simp [go_sem, hXs])
            have k2 : V.cell? ⟨c + 1, 2, none⟩ = some (.int .i64 0) := U1.cell (p := ⟨c + 1, 2, none⟩) hpn (by simp [go_sem, hXs])
            have z0 : V.frozen? ⟨c + 1, 0, none⟩ = false := U1.frozen (p := ⟨c + 1, 0, none⟩) (by simp [hXs]) hpn (by simp [go_sem, hXs])
            have z1 : V.frozen? ⟨c + 1, 1, none⟩ = false := U1.frozen (p := ⟨c + 1, 1, none⟩) (by simp [hXs]) hpn (by simp [go_sem, hXs])
            have z2 : V.frozen? ⟨c + 1, 2, none⟩ = false := U1.frozen (p := ⟨c + 1, 2, none⟩) (by simp [hXs]) hpn (by simp [go_sem, hXs])
            go_simp
            refine hK.out _ _ ((((hHa17.setCell (a := ⟨c + 1, 0, none⟩) (by simp only; omega) _).setCell (a := ⟨c + 1, 1, none⟩) (by simp only; omega) _).setCell (a := ⟨c + 1, 2, none⟩) (by simp only; omega) _)) (fun hHa21 => ?_)
            clear hK K
            refine lat_free2 (i := 14) (oi := { dst := some 10, op := Go.Op.assign (Go.Operand.tmp 64), type := 4, pos := "more.go:25", after := #[{ on := 11, ground := Go.Ground.data }, { on := 13, ground := Go.Ground.chain }, { on := 0, ground := Go.Ground.phase }, { on := 1, ground := Go.Ground.phase }, { on := 2, ground := Go.Ground.phase }, { on := 3, ground := Go.Ground.phase }, { on := 4, ground := Go.Ground.phase }, { on := 5, ground := Go.Ground.phase }, { on := 6, ground := Go.Ground.phase }, { on := 7, ground := Go.Ground.phase }, { on := 8, ground := Go.Ground.phase }, { on := 9, ground := Go.Ground.phase }, { on := 10, ground := Go.Ground.phase }, { on := 11, ground := Go.Ground.phase }, { on := 12, ground := Go.Ground.phase }, { on := 13, ground := Go.Ground.phase }], guard := none }) (v := ?va22) rfl (by kernel_rfl) (by kernel_rfl) (by kernel_rfl) (by kernel_rfl) (by kernel_rfl) (fun _ _ _ h => h) (Or.inl ⟨by rfl, ?hya22⟩) hHa21 ?resta22
            case hya22 => (intro w hAw; obtain ⟨p0, p1, p2, p3, p4, p5, p6, p7⟩ := hBq.out.grew hAw; obtain ⟨q0, q1, q2, q3, q4, q5, q6, q7⟩ := hBk.out.grew hAw; clear hAw; go_simp; try (with_reducible rfl))
            simp only [Act.put, List.setIfInBounds_toArray, List.set_cons_zero, List.set_cons_succ]
            refine lat_done (by kernel_rfl) ?_ _
            have GF : Hid (Grew wr _) := hHa21
            by_cases ho : r.1.2 = true
            · go_wp2_with (fail)
              go_ret
              exact ⟨rfl, hB3.trans (GF.out.below.mono hB3.size)⟩
            · have ho' : r.1.2 = false := by simpa using ho
              by_cases hE : r.2 = 0
              rotate_left
              · have hne : (r.2 != 0) = true := by simpa using hE
                clear hE
                go_wp2_with (fail)
                go_ret
                exact ⟨rfl, hB3.trans (GF.out.below.mono hB3.size)⟩
              · have hnew : Hid (∀ j, j < q + 1 → (hitR (bd N j) B).2 = 0 ∧ (hitR (bd N j) B).1.2 = false) := fun j hj => by
                  by_cases e : j = q
                  · rw [e, hbq.out, HR.out]; exact ⟨hE, ho'⟩
                  · exact hh.out j (by omega)
                go_wp2_with (fail)
                refine ⟨⟨q + 1, hqt, by simp, hO3.grew GF.out, hB3.trans (GF.out.below.mono hB3.size), hnew⟩, ?_⟩
                simp only [intOf]; omega
        · have hqi : ¬ (q : Int) < (k : Int) := by omega
          obtain rfl : q = k := by omega
          have hUm : Upto N (q + 1) := hU1.out.more (by rw [hbm.out]; exact ⟨hrest.out, hr⟩) (by rw [hbm.out]; exact hh.out)
          have hw : wrap64 ((q : Int) + 1) = q + 1 := IntWalk.wrap64_in _ ⟨by omega, by omega⟩
          replace hUm : Hid (Upto N (q + 1)) := hUm
          go_wp2_with (fail)
          refine ⟨⟨q + 1, N, hlt, by simp, hMl.out, hO3, hUm.out, hB3⟩, ?_⟩
          simp only [intOf]; omega
    · have hi : ¬ (k : Int) < (l : Int) := by omega
      obtain rfl : k = l := by omega
      have hC := Upto.calm (by rw [hM]; exact hU) hO.ok
      have HRun : Hid (∀ W, Below wr.heap.size wr W → Calls Tryz.prog 7 #[.agg #[.int .i64 0, .int .i64 0, .slice am M.length cm, .slice none 0 0], .int .i64 (n : Int)] W fun e w' => Below W.heap.size W w' ∧ ∃ a' c' b' d', e = .returned (.tuple #[.agg #[.int .i64 0, .int .i64 0, .slice a' M.length c', .slice b' ([] : List Jt).length d'], .int .i64 0, .int .i64 0]) ∧ Bodies w' a' M ∧ Joints w' b' []) := fun W h => by
        have := runv_any 0 0 inF0 inF0 M [] n am cm none 0 W (hO.bodies.below h) ⟨by simp, .inl rfl⟩ (by omega) (by simp)
        rw [hC.run n (by omega)] at this
        exact ran_ok this
      have HBo : Hid (∀ W, Below wr.heap.size wr W → Bodies W am M) := fun W h => hO.bodies.below h
      have HSB : Hid (∀ W a c, Bodies W a M → Bodies W am M → Calls Tryz.prog 8 #[.slice a M.length c, .slice am M.length cm] W fun e w' => e = .returned (.bool true) ∧ Below W.heap.size W w') := fun W a c h1 h2 => samebodies_any M a am c cm W h1 h2 (by omega)
      rw [hM] at HRun HSB
      clear hC hU hO hM
      go_wp2_with (first
        | (go_at_call 7; go_fit (HRun.out _ (Below.refl _ _)); rintro e V2 ⟨U2, a', c', b', d', rfl, hB2, hJ2⟩; replace hB2 := show Hid _ from hB2; clear hJ2)
        | (go_at_call 8; go_fit (HSB.out _ _ _ (hB2.out.below (below_alloc (Below.refl _ _) (Nat.le_refl _) _)) (HBo.out _ (onto_alloc U2 _))); rintro e V3 ⟨rfl, U3⟩)
        | fail)
      go_ret
      exact ⟨rfl, onto (onto hB (onto_alloc U2 _)) U3⟩

set_option maxRecDepth 100000 in
theorem lifted (os : Os) (started : os.Started) (H : Type) (enc : TypeId × Value → H) :
    ReturnsInHanded {} Tryz.checked os 3 .any (Rows.worldStillSpec.pre6 enc Tryz.prog Tryz.f3 Rows.worldStillRow.domain false) (Rows.worldStillSpec.post enc Tryz.prog Tryz.f3 false true false false) := by
  refine returnsInHanded_of_change (C := Tryz.checked) own started (by kernel_rfl) Tryz.func3
    (ChangeSpec.witness6 (enc := enc) (C := Tryz.checked) false ⟨#[], #[.slice none 0 0, .int .i64 0], []⟩ 8 (by kernel_rfl) (by kernel_rfl) (by kernel_rfl) (by kernel_rfl)) ?_
  intro W base args ds gs before hval0 hW hcnd _
  have hval : ∀ (j : Nat) t v, Tryz.f3.params[j]? = some t → args[j]? = some v → Value.okWide Tryz.prog W .any base t v := hval0
  have hW' := hW
  obtain ⟨p, q, hA0, hV, rfl, hfz, hnd⟩ := hW
  have hA : DataW.TrodAll enc Tryz.prog W 0 (fun _ => true) true Tryz.f3.params.toList args.toList ds p := hA0
  rw [Tryz.params3] at hA hval
  obtain ⟨v0, vs0, d0, ds0, p0, q0, hargs, rfl, rfl, h0, r0⟩ := trodAll_cons hA
  obtain ⟨v1, vs1, d1, ds1, p1, q1, rfl, rfl, rfl, h1, r1⟩ := trodAll_cons r0
  obtain ⟨rfl, rfl, rfl⟩ := trodAll_nil r1
  obtain rfl : args = #[v0, v1] := by cases args; simp_all
  obtain ⟨rfl, rfl⟩ := trodVars_none hV
  obtain ⟨a0, len0, cap0, rfl⟩ := okWide_slice Tryz.underlying22 (hval 0 22 v0 rfl rfl)
  have k0 := h0
  have lt0 : ∀ x ∈ p0, x.block < W.heap.size := by obtain ⟨m, hm⟩ := k0; exact DataW.trod_lt m _ _ _ hm
  obtain ⟨L0, rfl, b0⟩ := open_bodies h0
  obtain ⟨a1, rfl, rfl, rfl, w1⟩ := open_int Tryz.underlying3 (hval 1 3 v1 rfl rfl) h1
  have f1 := inF_wf w1
  clear hA0 hval0
  refine (walk a0 cap0 L0 a1 f1 W b0 ).mono fun e W' ⟨he, bel⟩ => ?_
  subst he
  exact ⟨_, rfl, _, _, _, [], _, [], hW', trodAll_mk1 (shut_bool Tryz.underlying4 _), (trodAll_cons_mk (Below.trod laidOut (by kernel_rfl) (of_decide_eq_true (by kernel_rfl)) k0 bel lt0) (trodAll_cons_mk (shut_int Tryz.underlying3 w1) trodAll_mk0)), rfl, bel.frame _, fun h => by cases h⟩

theorem over : Rows.worldStillRow.holds Tryz.pinned (OpenSpec.ofChange Rows.worldStillSpec) :=
  OpenClaim.holds_of_wide 3 Tryz.f3 rfl rfl rfl rfl rfl rfl rfl ⟨rfl, rfl, rfl, rfl, rfl⟩ rfl rfl rfl rfl rfl (by kernel_rfl) Tryz.func3 (by kernel_rfl)
    (of_decide_eq_true (by kernel_rfl)) (by unfold Func.isWrapper; first | (rw [if_pos (by decide +kernel)]; kernel_rfl) | (rw [if_neg (by decide +kernel)]; exact ⟨rfl, rfl⟩))
    (fun os started H enc _ => lifted os started H enc)

theorem proved : Rows.WorldStillSaid :=
  over
end Go.Proofs.YtcoooehcgbohgaaGreat.worldStill

namespace Go.Proofs.YtcoooehcgbohgaaGreat
theorem worldStill_holds : Rows.WorldStillSaid := worldStill.proved
end Go.Proofs.YtcoooehcgbohgaaGreat
