/-
  Package calc's own small calls: sound (the answer, or a panic of a Fault), errnoOf (a Fault's number; else the panic goes on), and the function that Try defers.
-/
import Derived.Test.YtnkhknmpffcfbaaGreatFixDiv
import Derived.Test.YtnkhknmpffcfbaaGreatCWorld
namespace Go.Proofs.YtnkhknmpffcfbaaGreat
open Go.RowKit

/-- What a Fault of an error looks like when it is thrown. -/
def fault (x : Int) : PanicEntry := { v := .iface 91 (.agg #[.int .i64 x]), recovered := false }

/-- How a call of calc ends of which fix answers r. -/
def outR (r : Int × Int) : Ending := if r.2 = 0 then .returned (.int .i64 r.1) else .panicked [fault r.2]
theorem outR_ok {v : Int} : outR (v, 0) = .returned (.int .i64 v) := rfl
theorem outR_bad {v x : Int} (h : ¬ x = 0) : outR (v, x) = .panicked [fault x] := if_neg h

theorem sound_ok (a : Int) (w : World) :
    Calls Tryz.prog 61 #[.int .i64 a, .int .i64 0] w fun e w' => e = .returned (.int .i64 a) ∧ w' = w := by
  go_enter Tryz.func61, Tryz.ntmps61
  go_wp2
  go_ret
  exact ⟨rfl, rfl⟩

theorem sound_bad (a x : Int) (h : ¬ x = 0) (w : World) :
    Calls Tryz.prog 61 #[.int .i64 a, .int .i64 x] w fun e w' => e = .panicked [fault x] ∧ w' = w := by
  go_enter Tryz.func61, Tryz.ntmps61
  go_wp2
  exact ⟨rfl, rfl, rfl⟩

theorem assert_fault (s : TypeId) (v : Value) (w : World) :
    (Instr.typeAssert (.iface 91 v) s 91 true).run Tryz.prog w = .ok (.tuple #[v, .bool true]) w := by
  have hu := run_underlying Tryz.underlying91 w
  simp [Instr.typeAssert, go_sem, hu]

theorem errno_fault (x : Int) (w : World) :
    Calls Tryz.prog 43 #[.iface 91 (.agg #[.int .i64 x])] w fun e w' => e = .returned (.int .i64 x) ∧ Grew w w' := by
  have hta := assert_fault
  go_enter Tryz.func43, Tryz.ntmps43
  go_wp2
  go_ret
  exact ⟨rfl, (Grew.refl w).alloc _ _⟩

/-- The closure that Try defers, of a frame that a Fault goes through. -/
theorem catch_fault (p : Addr) (x y : Int) (older : List PanicEntry) (w : World) (hc : w.cell? p = some (.int .i64 y)) (hz : w.frozen? p = false) :
    CallsD Tryz.prog 42 #[.pointer (some p)] (.panicking (fault x :: older)) w fun e u' w' =>
      e = .returned (.tuple #[]) ∧ u' = .panicking ({ v := .iface 91 (.agg #[.int .i64 x]), recovered := true } :: older) ∧ w'.cell? p = some (.int .i64 x) ∧ Past p.block w w' := by
  refine callsD_of_wpS Tryz.func42 rfl fun c₀ cs hu => ?_
  apply wpS_seq
  apply wpS_region
  simp [wpOpsS, go_sem, recoverD, hu, fault, Tryz.ntmps42, Exit.thenS]
  refine wpS_of_wp ?_
  go_wp2_with (first
    | (go_at_call 43; refine (errno_fault _ _).mono ?_; rintro e w' ⟨rfl, G⟩; have hc' := G.cell hc; have hz' := G.frozen hz))
  simp [bodyPostS, results, Tryz.results42]
  exact ⟨World.cell?_setCell_same _ _ _ hc', G.past.trans (past_setCell _ _ _ _ _)⟩

/-- .. of a frame that returns. -/
theorem catch_none (p : Addr) (w : World) :
    CallsD Tryz.prog 42 #[.pointer (some p)] .returning w fun e u' w' => e = .returned (.tuple #[]) ∧ u' = .returning ∧ w' = w := by
  refine callsD_of_wpS Tryz.func42 rfl fun c₀ cs hu => ?_
  apply wpS_seq
  apply wpS_region
  simp [wpOpsS, go_sem, recoverD, hu, Tryz.ntmps42, Exit.thenS]
  refine wpS_of_wp ?_
  go_wp2
  cases c₀
  simp_all [bodyPostS, results, Tryz.results42]

theorem eq_nil (w : World) : (binOp .eql 1 .nilFunc .nilFunc).run Tryz.prog w = .ok (.bool true) w := by
  have hu := run_underlying Tryz.underlying1 w
  have hd : ∀ t x y, Op.equal t x y = Op.equalIn (9999 + 1) t x y := fun _ _ _ => rfl
  simp only [binOp, hd]
  rw [Op.equalIn]
  simp [go_sem, hu]
theorem ne_nil (f : Fn) (p q : Array Value) (w : World) : (binOp .eql 1 (.func f p q) .nilFunc).run Tryz.prog w = .ok (.bool false) w := by
  have hu := run_underlying Tryz.underlying1 w
  have hd : ∀ t x y, Op.equal t x y = Op.equalIn (9999 + 1) t x y := fun _ _ _ => rfl
  simp only [binOp, hd]
  rw [Op.equalIn]
  simp [go_sem, hu]

theorem try_nil (w : World) :
    Calls Tryz.prog 23 #[.nilFunc] w fun e w' => e = .returned (.int .i64 9) ∧ Grew w w' := by
  have hmf : ∀ (fn : Fn) (first cap : Array Value) (w : World), (Instr.makeFunc fn first cap).run Tryz.prog w = .ok (.func fn first cap) w := fun _ _ _ _ => rfl
  have hn := eq_nil
  go_enter_defers Tryz.func23, Tryz.ntmps23
  go_wp2
  simp [bodyPostD, Leaves, results, Tryz.results23, go_sem]
  exact (Grew.refl w).alloc _ _

theorem try_wp (F : Nat) (cap : Array Value) (w : World) (R : Ending → World → Prop) (hF : ∀ w, (callFunc F cap).run Tryz.prog w = .ok (.enter F cap) w)
    (h : Calls Tryz.prog F cap (w.alloc (.cells #[.int .i64 0] 30)) fun e w1 => w1.cell? ⟨w.heap.size, 0, none⟩ = some (.int .i64 0) ∧ w1.frozen? ⟨w.heap.size, 0, none⟩ = false ∧
      ∃ x, (e = .returned (.tuple #[]) ∧ x = 0 ∨ e = .panicked [fault x]) ∧ ∀ W, Past w.heap.size w1 W → R (.returned (.int .i64 x)) W) :
    Calls Tryz.prog 23 #[.func (.func F) #[] cap] w R := by
  have hmf : ∀ (fn : Fn) (first cap : Array Value) (w : World), (Instr.makeFunc fn first cap).run Tryz.prog w = .ok (.func fn first cap) w := fun _ _ _ _ => rfl
  have hn := ne_nil
  go_enter_defers Tryz.func23, Tryz.ntmps23
  go_wp2
  refine h.mono ?_
  rintro e w1 ⟨hc, hz, x, (⟨rfl, rfl⟩ | rfl), hR⟩
  · go_wp2
    refine leaves_cons (f := 42) (args := #[.pointer (some ⟨w.heap.size, 0, none⟩)]) (by simp) (by simp [go_sem]) ?_
    refine (catch_none _ _).mono ?_
    rintro e u' w'' ⟨rfl, rfl, rfl⟩
    simp [Leaves, settle, results, Tryz.results23, go_sem, World.cell?_setCell_same _ _ _ hc]
    exact hR _ (past_setCell _ _ _ _ _)
  · refine leaves_cons (f := 42) (args := #[.pointer (some ⟨w.heap.size, 0, none⟩)]) (by simp) (by simp [go_sem]) ?_
    refine (catch_fault _ x 0 [] _ hc hz).mono ?_
    rintro e u' w'' ⟨rfl, rfl, hc', hP⟩
    simp [Leaves, settle, results, Tryz.results23, go_sem, hc']
    exact hR _ hP

theorem cadd_any (a b : Int) (w : World) (ha : inF a) (hb : inF b) :
    Calls Tryz.prog 44 #[.int .i64 a, .int .i64 b] w fun e w' => e = outR (addR a b) ∧ w' = w := by
  obtain ⟨r, hr⟩ : ∃ r, r = addR a b := ⟨_, rfl⟩
  obtain ⟨v, x⟩ := r
  rw [← hr]
  by_cases hx : x = 0
  · subst hx
    rw [outR_ok]
    go_enter Tryz.func44, Tryz.ntmps44
    go_wp2_with (first
      | (go_at_call 62; refine (add_any _ _ _ ha hb).mono ?_; rintro e w' ⟨rfl, rfl⟩; rw [← hr])
      | (go_at_call 61; refine (sound_ok _ _).mono ?_; rintro e w' ⟨rfl, rfl⟩))
    go_ret
    exact ⟨rfl, rfl⟩
  · rw [outR_bad hx]
    go_enter Tryz.func44, Tryz.ntmps44
    go_wp2_with (first
      | (go_at_call 62; refine (add_any _ _ _ ha hb).mono ?_; rintro e w' ⟨rfl, rfl⟩; rw [← hr])
      | (go_at_call 61; refine (sound_bad _ _ hx _).mono ?_; rintro e w' ⟨rfl, rfl⟩))
    exact ⟨rfl, rfl, rfl⟩

theorem csub_any (a b : Int) (w : World) (ha : inF a) (hb : inF b) :
    Calls Tryz.prog 85 #[.int .i64 a, .int .i64 b] w fun e w' => e = outR (subR a b) ∧ w' = w := by
  obtain ⟨r, hr⟩ : ∃ r, r = subR a b := ⟨_, rfl⟩
  obtain ⟨v, x⟩ := r
  rw [← hr]
  by_cases hx : x = 0
  · subst hx
    rw [outR_ok]
    go_enter Tryz.func85, Tryz.ntmps85
    go_wp2_with (first
      | (go_at_call 103; refine (sub_any _ _ _ ha hb).mono ?_; rintro e w' ⟨rfl, rfl⟩; rw [← hr])
      | (go_at_call 61; refine (sound_ok _ _).mono ?_; rintro e w' ⟨rfl, rfl⟩))
    go_ret
    exact ⟨rfl, rfl⟩
  · rw [outR_bad hx]
    go_enter Tryz.func85, Tryz.ntmps85
    go_wp2_with (first
      | (go_at_call 103; refine (sub_any _ _ _ ha hb).mono ?_; rintro e w' ⟨rfl, rfl⟩; rw [← hr])
      | (go_at_call 61; refine (sound_bad _ _ hx _).mono ?_; rintro e w' ⟨rfl, rfl⟩))
    exact ⟨rfl, rfl, rfl⟩

theorem cmul_any (a b : Int) (w : World) (ha : inF a) (hb : inF b) :
    Calls Tryz.prog 80 #[.int .i64 a, .int .i64 b] w fun e w' => e = outR (mulR a b) ∧ w' = w := by
  obtain ⟨r, hr⟩ : ∃ r, r = mulR a b := ⟨_, rfl⟩
  obtain ⟨v, x⟩ := r
  rw [← hr]
  by_cases hx : x = 0
  · subst hx
    rw [outR_ok]
    go_enter Tryz.func80, Tryz.ntmps80
    go_wp2_with (first
      | (go_at_call 100; refine (mul_any _ _ _ ha hb).mono ?_; rintro e w' ⟨rfl, rfl⟩; rw [← hr])
      | (go_at_call 61; refine (sound_ok _ _).mono ?_; rintro e w' ⟨rfl, rfl⟩))
    go_ret
    exact ⟨rfl, rfl⟩
  · rw [outR_bad hx]
    go_enter Tryz.func80, Tryz.ntmps80
    go_wp2_with (first
      | (go_at_call 100; refine (mul_any _ _ _ ha hb).mono ?_; rintro e w' ⟨rfl, rfl⟩; rw [← hr])
      | (go_at_call 61; refine (sound_bad _ _ hx _).mono ?_; rintro e w' ⟨rfl, rfl⟩))
    exact ⟨rfl, rfl, rfl⟩

theorem cdiv_any (a b : Int) (w : World) (ha : inF a) (hb : inF b) :
    Calls Tryz.prog 87 #[.int .i64 a, .int .i64 b] w fun e w' => e = outR (divR a b) ∧ ∃ n, w' = w.drewN n := by
  obtain ⟨r, hr⟩ : ∃ r, r = divR a b := ⟨_, rfl⟩
  obtain ⟨v, x⟩ := r
  rw [← hr]
  by_cases hx : x = 0
  · subst hx
    rw [outR_ok]
    go_enter Tryz.func87, Tryz.ntmps87
    go_wp2_with (first
      | (go_at_call 104; refine (div_any _ _ _ ha hb).mono ?_; rintro e w' ⟨rfl, n, rfl⟩; rw [← hr])
      | (go_at_call 61; refine (sound_ok _ _).mono ?_; rintro e w' ⟨rfl, rfl⟩))
    go_ret
    exact ⟨rfl, _, rfl⟩
  · rw [outR_bad hx]
    go_enter Tryz.func87, Tryz.ntmps87
    go_wp2_with (first
      | (go_at_call 104; refine (div_any _ _ _ ha hb).mono ?_; rintro e w' ⟨rfl, n, rfl⟩; rw [← hr])
      | (go_at_call 61; refine (sound_bad _ _ hx _).mono ?_; rintro e w' ⟨rfl, rfl⟩))
    exact ⟨rfl, rfl, _, rfl⟩

end Go.Proofs.YtnkhknmpffcfbaaGreat
