/-
  What fix.Div does: for whatever int64s it returns what the plain function of the Num text says; the world is as it was but for answers drawn. Worlds that grew (Grew): what was there stays, the tape too; a world in which one block's cells may have been written besides (Past); a slice of int64s that lies in memory (Row). Package calc's own small calls: sound (the answer, or a panic of a Fault), errnoOf (a Fault's number; else the panic goes on), and the function that Try defers. Plain numbers, no program in sight: what chapter 6's calls answer. Nothing is claimed here. Plain numbers, no program in sight: a body, which bodies may be (chapter 7), and how it stands as a value. Nothing is claimed here. Plain numbers, no program in sight: boxes, and what chapter 8's calls answer of them. Nothing is claimed here. What package root's inner calls do: the two words of a square, of a sum, which of two is above, how many bits; for whatever words; more blocks are in memory, and nothing else. What package root's rootOf, Int, Sqrt and Len do: the whole root, for whatever words; more blocks are in memory, and nothing else. Worlds in which some blocks may have been written, with no word on marks (But), and what a call owns there. No program in sight.
-/
import Derived.Test.YtcoooehcgbohgaaGreatPxDiv
import Derived.Test.YtcoooehcgbohgaaGreatRows
import Derived.Test.YtcoooehcgbohgaaGreatPk01
import Derived.WalkKit
import Derived.WalkSpells
import Derived.WalkLawsBesides
import Derived.Below
import Derived.Recover
import Derived.LoopTactic
import Derived.Laws.Externs
import Derived.Deep.RegionWith
import Derived.OwnWalk
import Derived.Laws.OwnMore
namespace Go.Proofs.YtcoooehcgbohgaaGreat
open Go.RowKit

set_option maxHeartbeats 400000 in
theorem div_any (a b : Int) (w : World) (ha : inF a) (hb : inF b) :
    Calls Tryz.prog 97 #[.int .i64 a, .int .i64 b] w fun e w' => e = .returned (.tuple #[.int .i64 (divR a b).1, .int .i64 (divR a b).2]) ∧ ∃ n, w' = w.drewN n := by
  have a0 := ab_nonneg a; have a1 := ab_le ha; have b0 := ab_nonneg b; have b1 := ab_le hb
  unfold divR
  by_cases h : b = 0
  · subst h
    rw [if_pos rfl]
    clear hb b0 b1
    go_enter Tryz.func97, Tryz.ntmps97
    go_wp2
    go_ret2
    exact ⟨rfl, 0, rfl⟩
  · rw [if_neg h]
    have p := ab_pos h
    have hz : (b == 0) = false := by simp [h]
    have e : (ab a / 4294967296 * 18446744073709551616 + IntKind.u64.wrap (ab a * 4294967296)) / ab b = divM a b := by
      unfold divM; rw [IntKind.wrap_u64]; congr 1; omega
    by_cases g : ab a / 4294967296 < ab b
    · have w0 : 0 ≤ IntKind.u64.wrap (ab a * 4294967296) ∧ IntKind.u64.wrap (ab a * 4294967296) ≤ 18446744073709551615 := by rw [IntKind.wrap_u64]; omega
      have q0 := divM_nonneg a b
      have q1 : divM a b ≤ 18446744073709551615 := by
        have : divM a b < 18446744073709551616 := Int.ediv_lt_of_lt_mul (by omega) (by omega)
        omega
      unfold sgn
      have E : Hid (_ = _) := e; clear e
      go_enter Tryz.func97, Tryz.ntmps97
      go_wp2_with (first | (go_at_call 113; refine (size_any _ _ (by assumption)).mono ?_; rintro e w' ⟨rfl, rfl⟩) | (go_at_call 70; refine (div64_any _ _ _ _ w0.1 w0.2 p (by omega) (by omega) g).mono ?_; rintro e w' ⟨r, rfl, n, rfl⟩; rw [E.out]) | (go_at_call 114; refine (signed_any _ _ _ ⟨q0, q1⟩).mono ?_; rintro e w' ⟨rfl, rfl⟩))
      go_ret2
      exact ⟨rfl, _, rfl⟩
    · have hs : sgR (sgn a b) (divM a b) = (0, 3) := by
        have l : 18446744073709551616 ≤ divM a b := Int.le_ediv_of_mul_le (by omega) (by omega)
        rcases sgR_cases (sgn a b) (divM a b) with ⟨_, h2, _⟩ | ⟨_, h2, _⟩ | ⟨_, _, h3⟩
        · omega
        · omega
        · exact h3
      rw [hs]; clear hs e
      go_enter Tryz.func97, Tryz.ntmps97
      go_wp2_with (go_at_call 113; refine (size_any _ _ (by assumption)).mono ?_; rintro e w' ⟨rfl, rfl⟩)
      go_ret2
      exact ⟨rfl, 0, rfl⟩
end Go.Proofs.YtcoooehcgbohgaaGreat

namespace Go.Proofs.YtcoooehcgbohgaaGreat
open Go.RowKit

theorem grown_heap {w w' : World} (h : Grown w w') {i : Nat} (hi : i < w.heap.size) : w'.heap[i]? = w.heap[i]? := by
  obtain ⟨⟨_, _, h3⟩, _, _⟩ := h
  have := h3 i hi
  split at this
  · rename_i c t fr c' t' fr' e1 e2
    obtain ⟨rfl, rfl, hs, hj⟩ := this
    rw [e1, e2]
    have : c' = c := Array.ext_getElem? (fun j => hj j (by simp))
    rw [this]
  · rename_i e1 e2
    rcases this with f | ⟨rfl, rfl⟩
    · exact f.elim
    · rw [e1, e2]
  · exact this

theorem cell_block {w : World} {p : Addr} {v : Value} (h : w.cell? p = some v) : p.block < w.heap.size := by
  unfold World.cell? at h
  by_cases e : p.block < w.heap.size
  · exact e
  · rw [Array.getElem?_eq_none (by omega)] at h
    cases h

theorem cell_of_heap {w w' : World} {p : Addr} (h : w'.heap[p.block]? = w.heap[p.block]?) : w'.cell? p = w.cell? p := by
  unfold World.cell?
  rw [h]

/-- w' is w with more blocks, and answers drawn. -/
structure Grew (w w' : World) : Prop where
  grown : Grown w w'
  tape : w'.tape = w.tape

theorem Grew.refl (w : World) : Grew w w := ⟨Grown.refl w, rfl⟩
theorem Grew.trans {a b c : World} (h : Grew a b) (g : Grew b c) : Grew a c :=
  ⟨⟨World.keptBut_trans h.1.1 g.1.1, fun x => (g.1.2.1 x).trans (h.1.2.1 x), Nat.le_trans h.1.2.2 g.1.2.2⟩, g.tape.trans h.tape⟩
theorem Grew.alloc {w w' : World} (h : Grew w w') (c : Array Value) (t : TypeId) : Grew w (w'.alloc (.cells c t)) := ⟨h.grown.alloc c t, h.tape⟩
theorem Grew.setCell {w w' : World} (h : Grew w w') {a : Addr} (ha : w.heap.size ≤ a.block) (v : Value) : Grew w (w'.setCell a v) := ⟨h.grown.setCell ha v, h.tape⟩
theorem drewN_tape (w : World) (n : Nat) : (w.drewN n).tape = w.tape := rfl
theorem Grew.drewN {w w' : World} (h : Grew w w') (n : Nat) : Grew w (w'.drewN n) := ⟨h.grown, h.tape⟩
theorem Grew.drew {w w' : World} (h : Grew w w') : Grew w w'.drew := ⟨h.grown, h.tape⟩
theorem Grew.size {w w' : World} (h : Grew w w') : w.heap.size ≤ w'.heap.size := h.grown.2.2
theorem Grew.heap {w w' : World} (h : Grew w w') {i : Nat} (hi : i < w.heap.size) : w'.heap[i]? = w.heap[i]? := grown_heap h.grown hi
theorem Grew.cell {w w' : World} (h : Grew w w') {p : Addr} {v : Value} (hc : w.cell? p = some v) : w'.cell? p = some v := by
  rw [cell_of_heap (h.heap (cell_block hc)), hc]
theorem Grew.frozen {w w' : World} (h : Grew w w') {p : Addr} (hc : w.frozen? p = false) : w'.frozen? p = false := (h.grown.2.1 p).trans hc
theorem Grew.below {w w' : World} (h : Grew w w') : Below w.heap.size w w' :=
  ⟨h.grown.1.1, h.tape, h.grown.1.2.1, h.size, fun _ hk => h.heap hk⟩

/-- A cell of a block that was not there when w₀ was is not frozen. -/
theorem Grew.free {w₀ w : World} (h : Grew w₀ w) {p : Addr} (hp : w₀.heap.size ≤ p.block) : w.frozen? p = false := by
  rw [h.grown.2.1 p]
  unfold World.frozen?
  rw [Array.getElem?_eq_none hp]

/-- W is w1 with new blocks, and block n may have been written. -/
structure Past (n : Nat) (w1 W : World) : Prop where
  grew : ∀ w₀ : World, w₀.heap.size ≤ n → Grew w₀ w1 → Grew w₀ W
  block : ∀ i, i < w1.heap.size → i ≠ n → W.heap[i]? = w1.heap[i]?
  size : w1.heap.size ≤ W.heap.size

theorem Past.refl (n : Nat) (w : World) : Past n w w := ⟨fun _ _ h => h, fun _ _ _ => rfl, Nat.le_refl _⟩
theorem Past.trans {n : Nat} {a b c : World} (h : Past n a b) (g : Past n b c) : Past n a c :=
  ⟨fun w₀ hw G => g.grew w₀ hw (h.grew w₀ hw G), fun i hi hn => (g.block i (Nat.lt_of_lt_of_le hi h.size) hn).trans (h.block i hi hn), Nat.le_trans h.size g.size⟩
theorem Grew.past {n : Nat} {w W : World} (h : Grew w W) : Past n w W :=
  ⟨fun _ _ G => G.trans h, fun _ hi _ => h.heap hi, h.size⟩
theorem past_setCell (n : Nat) (w : World) (o : Nat) (s : Option Nat) (v : Value) : Past n w (w.setCell ⟨n, o, s⟩ v) := by
  refine ⟨fun w₀ hw G => G.setCell hw v, fun i _ hn => ?_, ?_⟩
  · simp only [World.setCell, Array.getElem?_modify]
    rw [if_neg (by omega)]
  · simp [World.setCell]
theorem Past.cell {n : Nat} {w W : World} (h : Past n w W) {p : Addr} {v : Value} (hn : p.block ≠ n) (hc : w.cell? p = some v) : W.cell? p = some v := by
  rw [cell_of_heap (h.block _ (cell_block hc) hn), hc]

/-- A slice of int64s at a, its elements l. -/
def Row (w : World) (a : Option Addr) (l : List Int) : Prop :=
  l.length ≤ 1000 ∧ (∀ x ∈ l, inF x) ∧ (l = [] ∨ ∃ b off, a = some ⟨b, off, none⟩ ∧ ∀ i, i < l.length → w.cell? ⟨b, off + i, none⟩ = some (.int .i64 (l.getD i 0)))

theorem Row.grew {w w' : World} {a : Option Addr} {l : List Int} (h : Row w a l) (g : Grew w w') : Row w' a l := by
  obtain ⟨h1, h2, h3⟩ := h
  refine ⟨h1, h2, ?_⟩
  rcases h3 with h3 | ⟨b, off, h3, h4⟩
  · exact .inl h3
  · exact .inr ⟨b, off, h3, fun i hi => g.cell (h4 i hi)⟩

theorem ret_bool {a b : Bool} (h : a = b) : Ending.returned (.bool a) = .returned (.bool b) := by rw [h]

end Go.Proofs.YtcoooehcgbohgaaGreat

namespace Go.Proofs.YtcoooehcgbohgaaGreat
open Go.RowKit

/-- What a Fault of an error looks like when it is thrown. -/
def fault (x : Int) : PanicEntry := { v := .iface 89 (.agg #[.int .i64 x]), recovered := false }

/-- How a call of calc ends of which fix answers r. -/
def outR (r : Int × Int) : Ending := if r.2 = 0 then .returned (.int .i64 r.1) else .panicked [fault r.2]
theorem outR_ok {v : Int} : outR (v, 0) = .returned (.int .i64 v) := rfl
theorem outR_bad {v x : Int} (h : ¬ x = 0) : outR (v, x) = .panicked [fault x] := if_neg h

theorem sound_ok (a : Int) (w : World) :
    Calls Tryz.prog 68 #[.int .i64 a, .int .i64 0] w fun e w' => e = .returned (.int .i64 a) ∧ w' = w := by
  go_enter Tryz.func68, Tryz.ntmps68
  go_wp2
  go_ret
  exact ⟨rfl, rfl⟩

theorem sound_bad (a x : Int) (h : ¬ x = 0) (w : World) :
    Calls Tryz.prog 68 #[.int .i64 a, .int .i64 x] w fun e w' => e = .panicked [fault x] ∧ w' = w := by
  go_enter Tryz.func68, Tryz.ntmps68
  go_wp2
  exact ⟨rfl, rfl, rfl⟩

theorem assert_fault (s : TypeId) (v : Value) (w : World) :
    (Instr.typeAssert (.iface 89 v) s 89 true).run Tryz.prog w = .ok (.tuple #[v, .bool true]) w := by
  have hu := run_underlying Tryz.underlying89 w
  simp [Instr.typeAssert, go_sem, hu]

theorem errno_fault (x : Int) (w : World) :
    Calls Tryz.prog 41 #[.iface 89 (.agg #[.int .i64 x])] w fun e w' => e = .returned (.int .i64 x) ∧ Grew w w' := by
  have hta := assert_fault
  go_enter Tryz.func41, Tryz.ntmps41
  go_wp2
  go_ret
  exact ⟨rfl, (Grew.refl w).alloc _ _⟩

/-- The closure that Try defers, of a frame that a Fault goes through. -/
theorem catch_fault (p : Addr) (x y : Int) (older : List PanicEntry) (w : World) (hc : w.cell? p = some (.int .i64 y)) (hz : w.frozen? p = false) :
    CallsD Tryz.prog 40 #[.pointer (some p)] (.panicking (fault x :: older)) w fun e u' w' =>
      e = .returned (.tuple #[]) ∧ u' = .panicking ({ v := .iface 89 (.agg #[.int .i64 x]), recovered := true } :: older) ∧ w'.cell? p = some (.int .i64 x) ∧ Past p.block w w' := by
  refine callsD_of_wpS Tryz.func40 rfl fun c₀ cs hu => ?_
  apply wpS_seq
  apply wpS_region
  simp [wpOpsS, go_sem, recoverD, hu, fault, Tryz.ntmps40, Exit.thenS]
  refine wpS_of_wp ?_
  go_wp2_with (first
    | (go_at_call 41; refine (errno_fault _ _).mono ?_; rintro e w' ⟨rfl, G⟩; have hc' := G.cell hc; have hz' := G.frozen hz))
  simp [bodyPostS, results, Tryz.results40]
  exact ⟨World.cell?_setCell_same _ _ _ hc', G.past.trans (past_setCell _ _ _ _ _)⟩

/-- .. of a frame that returns. -/
theorem catch_none (p : Addr) (w : World) :
    CallsD Tryz.prog 40 #[.pointer (some p)] .returning w fun e u' w' => e = .returned (.tuple #[]) ∧ u' = .returning ∧ w' = w := by
  refine callsD_of_wpS Tryz.func40 rfl fun c₀ cs hu => ?_
  apply wpS_seq
  apply wpS_region
  simp [wpOpsS, go_sem, recoverD, hu, Tryz.ntmps40, Exit.thenS]
  refine wpS_of_wp ?_
  go_wp2
  cases c₀
  simp_all [bodyPostS, results, Tryz.results40]

theorem eq_nil (w : World) : (binOp .eql 1 .nilFunc .nilFunc).run Tryz.prog w = .ok (.bool true) w := by
  have hu := run_underlying Tryz.underlying1 w
  have hd : ∀ t x y, Op.equal t x y = Op.equalIn (9999 + 1) t x y := fun _ _ _ => rfl
  simp only [binOp, hd]
  rw [Op.equalIn]
  simp [go_sem, hu]
theorem ne_nil (f : Fn) (p q : Array Value) (w : World) : (binOp .eql 1 (.func f p q) .nilFunc).run Tryz.prog w = .ok (.bool false) w := by
  have hu := run_underlying Tryz.underlying1 w
  have hd : ∀ t x y, Op.equal t x y = Op.equalIn (9999 + 1) t x y := fun _ _ _ => rfl
  simp only [binOp, hd]
  rw [Op.equalIn]
  simp [go_sem, hu]

theorem try_nil (w : World) :
    Calls Tryz.prog 24 #[.nilFunc] w fun e w' => e = .returned (.int .i64 9) ∧ Grew w w' := by
  have hmf : ∀ (fn : Fn) (first cap : Array Value) (w : World), (Instr.makeFunc fn first cap).run Tryz.prog w = .ok (.func fn first cap) w := fun _ _ _ _ => rfl
  have hn := eq_nil
  go_enter_defers Tryz.func24, Tryz.ntmps24
  go_wp2
  simp [bodyPostD, Leaves, results, Tryz.results24, go_sem]
  exact (Grew.refl w).alloc _ _

theorem try_wp (F : Nat) (cap : Array Value) (w : World) (R : Ending → World → Prop) (hF : ∀ w, (callFunc F cap).run Tryz.prog w = .ok (.enter F cap) w)
    (h : Calls Tryz.prog F cap (w.alloc (.cells #[.int .i64 0] 30)) fun e w1 => w1.cell? ⟨w.heap.size, 0, none⟩ = some (.int .i64 0) ∧ w1.frozen? ⟨w.heap.size, 0, none⟩ = false ∧
      ∃ x, (e = .returned (.tuple #[]) ∧ x = 0 ∨ e = .panicked [fault x]) ∧ ∀ W, Past w.heap.size w1 W → R (.returned (.int .i64 x)) W) :
    Calls Tryz.prog 24 #[.func (.func F) #[] cap] w R := by
  have hmf : ∀ (fn : Fn) (first cap : Array Value) (w : World), (Instr.makeFunc fn first cap).run Tryz.prog w = .ok (.func fn first cap) w := fun _ _ _ _ => rfl
  have hn := ne_nil
  go_enter_defers Tryz.func24, Tryz.ntmps24
  go_wp2
  refine h.mono ?_
  rintro e w1 ⟨hc, hz, x, (⟨rfl, rfl⟩ | rfl), hR⟩
  · go_wp2
    refine leaves_cons (f := 40) (args := #[.pointer (some ⟨w.heap.size, 0, none⟩)]) (by simp) (by simp [go_sem]) ?_
    refine (catch_none _ _).mono ?_
    rintro e u' w'' ⟨rfl, rfl, rfl⟩
    simp [Leaves, settle, results, Tryz.results24, go_sem, World.cell?_setCell_same _ _ _ hc]
    exact hR _ (past_setCell _ _ _ _ _)
  · refine leaves_cons (f := 40) (args := #[.pointer (some ⟨w.heap.size, 0, none⟩)]) (by simp) (by simp [go_sem]) ?_
    refine (catch_fault _ x 0 [] _ hc hz).mono ?_
    rintro e u' w'' ⟨rfl, rfl, hc', hP⟩
    simp [Leaves, settle, results, Tryz.results24, go_sem, hc']
    exact hR _ hP

theorem cadd_any (a b : Int) (w : World) (ha : inF a) (hb : inF b) :
    Calls Tryz.prog 47 #[.int .i64 a, .int .i64 b] w fun e w' => e = outR (addR a b) ∧ w' = w := by
  obtain ⟨r, hr⟩ : ∃ r, r = addR a b := ⟨_, rfl⟩
  obtain ⟨v, x⟩ := r
  rw [← hr]
  by_cases hx : x = 0
  · subst hx
    rw [outR_ok]
    go_enter Tryz.func47, Tryz.ntmps47
    go_wp2_with (first
      | (go_at_call 69; refine (add_any _ _ _ ha hb).mono ?_; rintro e w' ⟨rfl, rfl⟩; rw [← hr])
      | (go_at_call 68; refine (sound_ok _ _).mono ?_; rintro e w' ⟨rfl, rfl⟩))
    go_ret
    exact ⟨rfl, rfl⟩
  · rw [outR_bad hx]
    go_enter Tryz.func47, Tryz.ntmps47
    go_wp2_with (first
      | (go_at_call 69; refine (add_any _ _ _ ha hb).mono ?_; rintro e w' ⟨rfl, rfl⟩; rw [← hr])
      | (go_at_call 68; refine (sound_bad _ _ hx _).mono ?_; rintro e w' ⟨rfl, rfl⟩))
    exact ⟨rfl, rfl, rfl⟩

theorem csub_any (a b : Int) (w : World) (ha : inF a) (hb : inF b) :
    Calls Tryz.prog 77 #[.int .i64 a, .int .i64 b] w fun e w' => e = outR (subR a b) ∧ w' = w := by
  obtain ⟨r, hr⟩ : ∃ r, r = subR a b := ⟨_, rfl⟩
  obtain ⟨v, x⟩ := r
  rw [← hr]
  by_cases hx : x = 0
  · subst hx
    rw [outR_ok]
    go_enter Tryz.func77, Tryz.ntmps77
    go_wp2_with (first
      | (go_at_call 96; refine (sub_any _ _ _ ha hb).mono ?_; rintro e w' ⟨rfl, rfl⟩; rw [← hr])
      | (go_at_call 68; refine (sound_ok _ _).mono ?_; rintro e w' ⟨rfl, rfl⟩))
    go_ret
    exact ⟨rfl, rfl⟩
  · rw [outR_bad hx]
    go_enter Tryz.func77, Tryz.ntmps77
    go_wp2_with (first
      | (go_at_call 96; refine (sub_any _ _ _ ha hb).mono ?_; rintro e w' ⟨rfl, rfl⟩; rw [← hr])
      | (go_at_call 68; refine (sound_bad _ _ hx _).mono ?_; rintro e w' ⟨rfl, rfl⟩))
    exact ⟨rfl, rfl, rfl⟩

theorem cmul_any (a b : Int) (w : World) (ha : inF a) (hb : inF b) :
    Calls Tryz.prog 72 #[.int .i64 a, .int .i64 b] w fun e w' => e = outR (mulR a b) ∧ w' = w := by
  obtain ⟨r, hr⟩ : ∃ r, r = mulR a b := ⟨_, rfl⟩
  obtain ⟨v, x⟩ := r
  rw [← hr]
  by_cases hx : x = 0
  · subst hx
    rw [outR_ok]
    go_enter Tryz.func72, Tryz.ntmps72
    go_wp2_with (first
      | (go_at_call 93; refine (mul_any _ _ _ ha hb).mono ?_; rintro e w' ⟨rfl, rfl⟩; rw [← hr])
      | (go_at_call 68; refine (sound_ok _ _).mono ?_; rintro e w' ⟨rfl, rfl⟩))
    go_ret
    exact ⟨rfl, rfl⟩
  · rw [outR_bad hx]
    go_enter Tryz.func72, Tryz.ntmps72
    go_wp2_with (first
      | (go_at_call 93; refine (mul_any _ _ _ ha hb).mono ?_; rintro e w' ⟨rfl, rfl⟩; rw [← hr])
      | (go_at_call 68; refine (sound_bad _ _ hx _).mono ?_; rintro e w' ⟨rfl, rfl⟩))
    exact ⟨rfl, rfl, rfl⟩

theorem cdiv_any (a b : Int) (w : World) (ha : inF a) (hb : inF b) :
    Calls Tryz.prog 79 #[.int .i64 a, .int .i64 b] w fun e w' => e = outR (divR a b) ∧ ∃ n, w' = w.drewN n := by
  obtain ⟨r, hr⟩ : ∃ r, r = divR a b := ⟨_, rfl⟩
  obtain ⟨v, x⟩ := r
  rw [← hr]
  by_cases hx : x = 0
  · subst hx
    rw [outR_ok]
    go_enter Tryz.func79, Tryz.ntmps79
    go_wp2_with (first
      | (go_at_call 97; refine (div_any _ _ _ ha hb).mono ?_; rintro e w' ⟨rfl, n, rfl⟩; rw [← hr])
      | (go_at_call 68; refine (sound_ok _ _).mono ?_; rintro e w' ⟨rfl, rfl⟩))
    go_ret
    exact ⟨rfl, _, rfl⟩
  · rw [outR_bad hx]
    go_enter Tryz.func79, Tryz.ntmps79
    go_wp2_with (first
      | (go_at_call 97; refine (div_any _ _ _ ha hb).mono ?_; rintro e w' ⟨rfl, n, rfl⟩; rw [← hr])
      | (go_at_call 68; refine (sound_bad _ _ hx _).mono ?_; rintro e w' ⟨rfl, rfl⟩))
    exact ⟨rfl, rfl, _, rfl⟩

end Go.Proofs.YtcoooehcgbohgaaGreat

namespace Go.Proofs.YtcoooehcgbohgaaGreat
open Go Go.RowKit

/-- Two answers, X ahead of Y: both, or the first error. -/
def two (r s : Int × Int) : Int × Int × Int := if r.2 = 0 then (if s.2 = 0 then (r.1, s.1, 0) else (0, 0, s.2)) else (0, 0, r.2)
/-- How a call ends that answers a place, or throws. -/
def outV (t : Int × Int × Int) : Ending := if t.2.2 = 0 then .returned (vec t.1 t.2.1) else .panicked [fault t.2.2]
theorem two_ok {r s : Int × Int} (h : r.2 = 0) (g : s.2 = 0) : two r s = (r.1, s.1, 0) := by unfold two; rw [if_pos h, if_pos g]
theorem two_no1 {r s : Int × Int} (h : ¬ r.2 = 0) : two r s = (0, 0, r.2) := by unfold two; rw [if_neg h]
theorem two_no2 {r s : Int × Int} (h : r.2 = 0) (g : ¬ s.2 = 0) : two r s = (0, 0, s.2) := by unfold two; rw [if_pos h, if_neg g]
theorem outV_ok {r s : Int × Int} (h : r.2 = 0) (g : s.2 = 0) : outV (two r s) = .returned (vec r.1 s.1) := by rw [two_ok h g]; rfl
theorem outV_no1 {r s : Int × Int} (h : ¬ r.2 = 0) : outV (two r s) = .panicked [fault r.2] := by rw [two_no1 h]; exact if_neg h
theorem outV_no2 {r s : Int × Int} (h : r.2 = 0) (g : ¬ s.2 = 0) : outV (two r s) = .panicked [fault s.2] := by rw [two_no2 h g]; exact if_neg g
/-- What Dot answers. -/
def dotV (x y u v : Int) : Int × Int := if (mulR x u).2 = 0 then (if (mulR y v).2 = 0 then addR (mulR x u).1 (mulR y v).1 else (0, (mulR y v).2)) else (0, (mulR x u).2)
/-- What Share answers of one side. -/
def partR (a n : Int) : Int × Int := if n = 0 then (0, 4) else if a = -9223372036854775808 ∧ n = -1 then (0, 3) else (a.tdiv n, 0)
/-- What Unit answers: the direction, the length, the error. -/
def unitR (x y : Int) : (Int × Int) × Int × Int := if (lenR x y).2 = 0 then (if (lenR x y).1 = 0 then ((0, 0), 0, 0) else if (two (divR x (lenR x y).1) (divR y (lenR x y).1)).2.2 = 0 then (((divR x (lenR x y).1).1, (divR y (lenR x y).1).1), (lenR x y).1, 0) else ((0, 0), 0, (two (divR x (lenR x y).1) (divR y (lenR x y).1)).2.2)) else ((0, 0), 0, (lenR x y).2)

/-- A call's end, by its two ways. -/
theorem out_ways (r : Int × Int) : (outR r = .returned (.int .i64 r.1) ∧ r.2 = 0) ∨ (outR r = .panicked [fault r.2] ∧ ¬ r.2 = 0) := by
  by_cases h : r.2 = 0
  · exact .inl ⟨if_pos h, h⟩
  · exact .inr ⟨if_neg h, h⟩
theorem ways_of {P : Program} {f : Nat} {args : Array Value} {w : World} {r : Int × Int} {A : World → Prop} (h : Calls P f args w fun e w' => e = outR r ∧ A w') :
    Calls P f args w fun e w' => ((e = .returned (.int .i64 r.1) ∧ Hid (r.2 = 0)) ∨ (e = .panicked [fault r.2] ∧ Hid (¬ r.2 = 0))) ∧ A w' := by
  refine h.mono ?_
  rintro e w' ⟨rfl, hA⟩
  refine ⟨?_, hA⟩
  rcases out_ways r with ⟨h1, h2⟩ | ⟨h1, h2⟩
  · exact .inl ⟨h1, h2⟩
  · exact .inr ⟨h1, h2⟩
theorem post_panic {P : Program} {fn : Func} {R : Ending → World → Prop} {c : List PanicEntry} {a : Act} {w : World} (hd : a.defers = []) (h : R (.panicked c) w) : bodyPost P fn R (.panic c) a w := ⟨hd, h⟩
end Go.Proofs.YtcoooehcgbohgaaGreat

namespace Go.Proofs.YtcoooehcgbohgaaGreat
open Go Go.RowKit

/-- A body: its shape, its size (a, b), its mass, its place (p, q), what moves it (u, v). -/
structure Bd where
  s : Int
  a : Int
  b : Int
  m : Int
  p : Int
  q : Int
  u : Int
  v : Int
/-- .. as the code has it. -/
def Bd.val (B : Bd) : Value := .agg #[.int .i64 B.s, .int .i64 B.a, .int .i64 B.b, .int .i64 B.m, .int .i64 B.p, .int .i64 B.q, .int .i64 B.u, .int .i64 B.v]
/-- .. its cells. -/
def Bd.row (B : Bd) : List Value := [.int .i64 B.s, .int .i64 B.a, .int .i64 B.b, .int .i64 B.m, .int .i64 B.p, .int .i64 B.q, .int .i64 B.u, .int .i64 B.v]
structure Bd.ok (B : Bd) : Prop where
  s : inF B.s
  a : inF B.a
  b : inF B.b
  m : inF B.m
  p : inF B.p
  q : inF B.q
  u : inF B.u
  v : inF B.v

def sideB (a : Int) : Bool := decide (67108864 ≤ a ∧ a ≤ 4294967296000)
def sizeB (s a b : Int) : Bool := if s = 1 then sideB a && decide (b = 0) else if s = 2 then sideB a && sideB b else false
def massB (m : Int) : Bool := decide (m = 0 ∨ 67108864 ≤ m ∧ m ≤ 42949672960000)
def withinB (x y k : Int) : Bool := decide (-k ≤ x ∧ x ≤ k ∧ -k ≤ y ∧ y ≤ k)
def momB (u v m : Int) : Bool := if m = 0 then decide (u = 0 ∧ v = 0) else withinB u v 4294967296000000
/-- Which bodies may be. -/
def rightB (B : Bd) : Bool := sizeB B.s B.a B.b && massB B.m && momB B.u B.v B.m && withinB B.p B.q 42949672960000

/-- What Speed and Lightness answer. -/
def speedR (B : Bd) : Int × Int × Int := if B.m = 0 then (0, 0, 0) else two (divR B.u B.m) (divR B.v B.m)
def lightR (B : Bd) : Int × Int := if B.m = 0 then (0, 0) else divR 4294967296 B.m

theorem rightB_iff (B : Bd) : rightB B = true ↔ (B.s = 1 ∧ B.b = 0 ∨ B.s = 2 ∧ 67108864 ≤ B.b ∧ B.b ≤ 4294967296000) ∧ 67108864 ≤ B.a ∧ B.a ≤ 4294967296000 ∧ (B.m = 0 ∧ B.u = 0 ∧ B.v = 0 ∨ 67108864 ≤ B.m ∧ B.m ≤ 42949672960000) ∧ -42949672960000 ≤ B.p ∧ B.p ≤ 42949672960000 ∧ -42949672960000 ≤ B.q ∧ B.q ≤ 42949672960000 ∧ -4294967296000000 ≤ B.u ∧ B.u ≤ 4294967296000000 ∧ -4294967296000000 ≤ B.v ∧ B.v ≤ 4294967296000000 := by
  unfold rightB sizeB massB momB withinB sideB
  by_cases h1 : B.s = 1
  · by_cases h3 : B.m = 0 <;> simp [h1, h3] <;> omega
  · by_cases h2 : B.s = 2
    · by_cases h3 : B.m = 0 <;> simp [h2, h3] <;> omega
    · simp [h1, h2]
end Go.Proofs.YtcoooehcgbohgaaGreat

namespace Go.Proofs.YtcoooehcgbohgaaGreat
open Go Go.RowKit

def bothB (a b : Bx) : Bx := ⟨min a.l b.l, min a.m b.m, max a.h b.h, max a.k b.k⟩
def inB (x y : Int) (b : Bx) : Bool := noneB b.l b.m x y && noneB x y b.h b.k
def nearI (a l h : Int) : Int := if a < l then l else if h < a then h else a
theorem inB_iff (x y : Int) (b : Bx) : inB x y b = true ↔ (b.l ≤ x ∧ b.m ≤ y) ∧ x ≤ b.h ∧ y ≤ b.k := by unfold inB; rw [Bool.and_eq_true, noneB_iff, noneB_iff]
theorem near_low {a l h : Int} (g : a < l) : nearI a l h = l := if_pos g
theorem near_high {a l h : Int} (g : ¬ a < l) (g2 : h < a) : nearI a l h = h := by unfold nearI; rw [if_neg g, if_pos g2]
theorem near_self {a l h : Int} (g : ¬ a < l) (g2 : ¬ h < a) : nearI a l h = a := by unfold nearI; rw [if_neg g, if_neg g2]
theorem near_cases (a l h : Int) : (a < l ∧ nearI a l h = l) ∨ (l ≤ a ∧ h < a ∧ nearI a l h = h) ∨ (l ≤ a ∧ a ≤ h ∧ nearI a l h = a) := by
  by_cases g : a < l
  · exact .inl ⟨g, near_low g⟩
  · by_cases g2 : h < a
    · exact .inr (.inl ⟨by omega, g2, near_high g g2⟩)
    · exact .inr (.inr ⟨by omega, by omega, near_self g g2⟩)
theorem near_in {a l h : Int} (i : inF a) (j : inF l) (k : inF h) : inF (nearI a l h) := by
  rcases near_cases a l h with ⟨_, e⟩ | ⟨_, _, e⟩ | ⟨_, _, e⟩ <;> rw [e] <;> assumption
/-- How far a body goes from its place, in Y (in X: B.a). -/
def reachY (B : Bd) : Int := if B.s = 1 then B.a else B.b
theorem reach_ball {B : Bd} (h : B.s = 1) : reachY B = B.a := if_pos h
theorem reach_else {B : Bd} (h : ¬ B.s = 1) : reachY B = B.b := if_neg h
theorem reach_in {B : Bd} (h : B.ok) : inF (reachY B) := by
  by_cases g : B.s = 1
  · rw [reach_ball g]; exact h.a
  · rw [reach_else g]; exact h.b
/-- Two corners, or the first error. -/
def pairX (s t : Int × Int × Int) : Bx × Int := if s.2.2 = 0 then (if t.2.2 = 0 then (⟨s.1, s.2.1, t.1, t.2.1⟩, 0) else (⟨0, 0, 0, 0⟩, t.2.2)) else (⟨0, 0, 0, 0⟩, s.2.2)
/-- The box around a body. -/
def boxR (B : Bd) : Bx × Int := pairX (two (subR B.p B.a) (subR B.q (reachY B))) (two (addR B.p B.a) (addR B.q (reachY B)))
/-- How a call ends that answers a box, or throws. -/
def outX (t : Bx × Int) : Ending := if t.2 = 0 then .returned t.1.val else .panicked [fault t.2]
theorem outX_ok {s t : Int × Int × Int} (h : s.2.2 = 0) (g : t.2.2 = 0) : outX (pairX s t) = .returned (.agg #[.int .i64 s.1, .int .i64 s.2.1, .int .i64 t.1, .int .i64 t.2.1]) := by unfold pairX; rw [if_pos h, if_pos g]; rfl
theorem outX_no1 {s t : Int × Int × Int} (h : ¬ s.2.2 = 0) : outX (pairX s t) = .panicked [fault s.2.2] := by unfold pairX; rw [if_neg h]; exact if_neg h
theorem outX_no2 {s t : Int × Int × Int} (h : s.2.2 = 0) (g : ¬ t.2.2 = 0) : outX (pairX s t) = .panicked [fault t.2.2] := by unfold pairX; rw [if_pos h, if_neg g]; exact if_neg g
theorem outX_ways (t : Bx × Int) : (outX t = .returned t.1.val ∧ t.2 = 0) ∨ (outX t = .panicked [fault t.2] ∧ ¬ t.2 = 0) := by
  by_cases h : t.2 = 0
  · exact .inl ⟨if_pos h, h⟩
  · exact .inr ⟨if_neg h, h⟩
theorem waysX_of {P : Program} {f : Nat} {args : Array Value} {w : World} {t : Bx × Int} {A : World → Prop} (h : Calls P f args w fun e w' => e = outX t ∧ A w') :
    Calls P f args w fun e w' => ((e = .returned t.1.val ∧ Hid (t.2 = 0)) ∨ (e = .panicked [fault t.2] ∧ Hid (¬ t.2 = 0))) ∧ A w' := by
  refine h.mono ?_
  rintro e w' ⟨rfl, hA⟩
  rcases outX_ways t with ⟨h1, h2⟩ | ⟨h1, h2⟩
  · exact ⟨.inl ⟨h1, h2⟩, hA⟩
  · exact ⟨.inr ⟨h1, h2⟩, hA⟩
end Go.Proofs.YtcoooehcgbohgaaGreat

namespace Go.Proofs.YtcoooehcgbohgaaGreat
open Go.RowKit

/-- A number of 128 bits as the code has it. -/
def wide (n : Int) : Value := .agg #[.int .u64 (n / 18446744073709551616), .int .u64 (n % 18446744073709551616)]

theorem square_any (a : Int) (w : World) (h0 : 0 ≤ a) (h1 : a ≤ 18446744073709551615) :
    Calls Tryz.prog 131 #[.int .u64 a] w fun e w' => e = .returned (wide (a * a)) ∧ Grew w w' := by
  go_enter Tryz.func131, Tryz.ntmps131
  go_wp2_with (first
    | (go_at_call 48; refine (mul64_any _ _ _ h0 h1 h0 h1).mono ?_; rintro e w' ⟨rfl, rfl⟩))
  simp [bodyPost, results, Tryz.results131, go_sem]
  exact ⟨rfl, (Grew.refl w).alloc _ _⟩

theorem above_any (a b : Int) (w : World) :
    Calls Tryz.prog 147 #[wide a, wide b] w fun e w' => e = .returned (.bool (decide (b < a))) ∧ Grew w w' := by
  unfold wide
  have t := two_words a b
  generalize a / 18446744073709551616 = ah at *
  generalize a % 18446744073709551616 = al at *
  generalize b / 18446744073709551616 = bh at *
  generalize b % 18446744073709551616 = bl at *
  have e : decide (b < a) = (decide (bh < ah) || (decide (ah = bh) && decide (bl < al))) := by rw [← Bool.decide_and, ← Bool.decide_or]; exact decide_eq_decide.2 t.symm
  rw [e]
  clear e t
  go_enter Tryz.func147, Tryz.ntmps147
  go_wp2
  all_goals
    go_ret
    refine ⟨?_, ((Grew.refl w).alloc _ _).alloc _ _⟩
    simp_all

theorem bitLen_over (x : Nat) (h : x < 2 ^ 64) : Lib.bitLen x ≤ 64 ∧ x < 2 ^ Lib.bitLen x := by
  by_cases g : x = 0
  · subst g; decide
  · obtain ⟨_, h2, _, h4⟩ := bitLenAux_bounds 64 x h (by omega)
    exact ⟨h2, h4⟩
theorem wide_over (a : Int) (h0 : 0 ≤ a) (h1 : a ≤ 340282366920938463463374607431768211455) :
    ((a / 18446744073709551616 != 0) = true → a < 2 ^ (64 + Lib.bitLen (a / 18446744073709551616).toNat) ∧ Lib.bitLen (a / 18446744073709551616).toNat ≤ 64) ∧
    (a / 18446744073709551616 = 0 → a < 2 ^ Lib.bitLen (a % 18446744073709551616).toNat ∧ Lib.bitLen (a % 18446744073709551616).toNat ≤ 64) := by
  obtain ⟨n, rfl⟩ := Int.eq_ofNat_of_zero_le h0
  have e1 : ((n : Int) / 18446744073709551616).toNat = n / 18446744073709551616 := by omega
  have e2 : ((n : Int) % 18446744073709551616).toNat = n % 18446744073709551616 := by omega
  rw [e1, e2]
  obtain ⟨p1, p2⟩ := bitLen_over (n / 18446744073709551616) (by omega)
  obtain ⟨q1, q2⟩ := bitLen_over (n % 18446744073709551616) (by omega)
  refine ⟨fun _ => ⟨?_, p1⟩, fun hz => ⟨?_, q1⟩⟩
  · have : n < 2 ^ (64 + Lib.bitLen (n / 18446744073709551616)) := by
      rw [Nat.pow_add]
      have := Nat.mul_le_mul_left (2 ^ 64) p2
      omega
    exact_mod_cast this
  · have : n < 2 ^ Lib.bitLen (n % 18446744073709551616) := by omega
    exact_mod_cast this

theorem length_any (a : Int) (w : World) (h0 : 0 ≤ a) (h1 : a ≤ 340282366920938463463374607431768211455) :
    Calls Tryz.prog 146 #[wide a] w fun e w' => (∃ k : Nat, k ≤ 128 ∧ a < 2 ^ k ∧ e = .returned (.int .i64 k)) ∧ Grew w w' := by
  obtain ⟨f1, f2⟩ := wide_over a h0 h1
  unfold wide
  have hh : 0 ≤ a / 18446744073709551616 ∧ a / 18446744073709551616 ≤ 18446744073709551615 := by omega
  have hl : 0 ≤ a % 18446744073709551616 ∧ a % 18446744073709551616 ≤ 18446744073709551615 := by omega
  clear h0 h1
  generalize a / 18446744073709551616 = x at *
  generalize a % 18446744073709551616 = y at *
  have F1 : Hid (_ → _) := f1; have F2 : Hid (_ → _) := f2; clear f1 f2
  go_enter Tryz.func146, Tryz.ntmps146
  go_wp2_with (first
    | (go_at_call 112; refine (len64_any _ _ (by first | exact hh.1 | exact hl.1) (by first | exact hh.2 | exact hl.2)).mono ?_; rintro e w' ⟨rfl, rfl⟩))
  · rename_i hx
    obtain ⟨g1, g2⟩ := F1.out hx
    go_ret
    exact ⟨⟨64 + Lib.bitLen x.toNat, by omega, g1, ret_int (by rw [wrap64_of]; omega)⟩, (Grew.refl w).alloc _ _⟩
  · rename_i hx
    obtain ⟨g1, g2⟩ := F2.out (by simpa using hx)
    go_ret
    exact ⟨⟨Lib.bitLen y.toNat, by omega, g1, rfl⟩, (Grew.refl w).alloc _ _⟩

theorem call_add64 (a b c : Int) (w : World) (a0 : 0 ≤ a) (b0 : 0 ≤ b) (c0 : 0 ≤ c) (c1 : c ≤ 1) :
    (callFunc 50 #[.int .u64 a, .int .u64 b, .int .u64 c]).run Tryz.prog w = .ok (.value (.tuple #[.int .u64 ((a + b + c) % 18446744073709551616), .int .u64 ((a + b + c) / 18446744073709551616)])) w := by
  rw [run_callFunc_extern Tryz.func50 (by kernel_rfl) (by kernel_rfl) (by kernel_rfl) (e := add64Entry) (by kernel_rfl)]
  rw [run_add64 a b c a0 b0 c0 c1]
  rfl

theorem add_words (a b : Int) (a0 : 0 ≤ a) (b0 : 0 ≤ b) (h : a + b ≤ 340282366920938463463374607431768211455) :
    (a / 18446744073709551616 + b / 18446744073709551616 + (a % 18446744073709551616 + b % 18446744073709551616 + 0) / 18446744073709551616) % 18446744073709551616 = (a + b) / 18446744073709551616 ∧ (a % 18446744073709551616 + b % 18446744073709551616 + 0) % 18446744073709551616 = (a + b) % 18446744073709551616 := by omega

theorem add2_any (a b : Int) (w : World) (a0 : 0 ≤ a) (b0 : 0 ≤ b) (h : a + b ≤ 340282366920938463463374607431768211455) :
    Calls Tryz.prog 130 #[wide a, wide b] w fun e w' => e = .returned (wide (a + b)) ∧ Grew w w' := by
  have A1 := add_words a b a0 b0 h
  have e1 : ∀ w, (callFunc 50 #[.int .u64 (a % 18446744073709551616), .int .u64 (b % 18446744073709551616), .int .u64 0]).run Tryz.prog w = .ok (.value (.tuple #[.int .u64 ((a % 18446744073709551616 + b % 18446744073709551616 + 0) % 18446744073709551616), .int .u64 ((a % 18446744073709551616 + b % 18446744073709551616 + 0) / 18446744073709551616)])) w :=
    fun w => call_add64 _ _ _ w (by omega) (by omega) (by omega) (by omega)
  have e2 : ∀ w, (callFunc 50 #[.int .u64 (a / 18446744073709551616), .int .u64 (b / 18446744073709551616), .int .u64 ((a % 18446744073709551616 + b % 18446744073709551616 + 0) / 18446744073709551616)]).run Tryz.prog w = .ok (.value (.tuple #[.int .u64 ((a / 18446744073709551616 + b / 18446744073709551616 + (a % 18446744073709551616 + b % 18446744073709551616 + 0) / 18446744073709551616) % 18446744073709551616), .int .u64 ((a / 18446744073709551616 + b / 18446744073709551616 + (a % 18446744073709551616 + b % 18446744073709551616 + 0) / 18446744073709551616) / 18446744073709551616)])) w :=
    fun w => call_add64 _ _ _ w (by omega) (by omega) (by omega) (by omega)
  unfold wide
  rw [← A1.1, ← A1.2]
  clear A1
  generalize (a % 18446744073709551616 + b % 18446744073709551616 + 0) / 18446744073709551616 = cy at *
  generalize (a % 18446744073709551616 + b % 18446744073709551616 + 0) % 18446744073709551616 = lo at *
  generalize (a / 18446744073709551616 + b / 18446744073709551616 + cy) % 18446744073709551616 = hi at *
  generalize (a / 18446744073709551616 + b / 18446744073709551616 + cy) / 18446744073709551616 = hc at *
  generalize a / 18446744073709551616 = ah at *
  generalize a % 18446744073709551616 = al at *
  generalize b / 18446744073709551616 = bh at *
  generalize b % 18446744073709551616 = bl at *
  go_enter Tryz.func130, Tryz.ntmps130
  go_wp2
  simp [bodyPost, results, Tryz.results130, go_sem]
  exact (((Grew.refl w).alloc _ _).alloc _ _).alloc _ _

theorem rsize_any (a : Int) (w : World) (ha : inF a) :
    Calls Tryz.prog 132 #[.int .i64 a] w fun e w' => e = .returned (.int .u64 (ab a)) ∧ w' = w := by
  unfold inF at ha
  go_enter Tryz.func132, Tryz.ntmps132
  go_wp2
  all_goals (go_ret; refine ⟨ret_int ?_, rfl⟩; have := ab_of a; try rw [IntKind.wrap_u64, wrap64_of])
  all_goals omega

end Go.Proofs.YtcoooehcgbohgaaGreat

namespace Go.Proofs.YtcoooehcgbohgaaGreat
open Go.RowKit

/-- With the root so far x, of which the j lowest bits lack. -/
def OfRel (n x : Int) (j : Nat) : Prop := j ≤ 64 ∧ 0 ≤ x ∧ x % 2 ^ j = 0 ∧ x + 2 ^ j ≤ 18446744073709551616 ∧ x * x ≤ n ∧ n < (x + 2 ^ j) * (x + 2 ^ j)
theorem OfRel.start (n : Int) (l : Nat) (h0 : 0 ≤ n) (hl : l ≤ 128) (hn : n < 2 ^ l) : OfRel n 0 ((l + 1) / 2) := by
  refine ⟨by omega, Int.le_refl 0, Int.zero_emod _, ?_, by omega, ?_⟩
  · rw [Int.zero_add]
    have h : 2 ^ ((l + 1) / 2) ≤ 2 ^ 64 := Nat.pow_le_pow_right (by decide) (by omega)
    have e : ((2 ^ ((l + 1) / 2) : Nat) : Int) = (2 : Int) ^ ((l + 1) / 2) := by simp
    rw [← e]
    omega
  · rw [Int.zero_add, ← Int.pow_add]
    have : 2 ^ l ≤ 2 ^ ((l + 1) / 2 + (l + 1) / 2) := Nat.pow_le_pow_right (by decide) (by omega)
    have : (2 : Int) ^ l ≤ 2 ^ ((l + 1) / 2 + (l + 1) / 2) := by exact_mod_cast this
    omega
theorem OfRel.stop {n x : Int} (h1 : n ≤ 340282366920938463463374607431768211455) (h : OfRel n x 0) : rt n = x := by
  obtain ⟨_, a, _, _, b, c⟩ := h
  exact rt_eq ⟨a, b, by simpa using c⟩ h1
theorem OfRel.bit {n x : Int} {j : Nat} (h : OfRel n x (j + 1)) : bits .or .u64 x (2 ^ j) = x + 2 ^ j ∧ (0 : Int) < 2 ^ j ∧ 0 ≤ x + 2 ^ j ∧ x + 2 ^ j ≤ 18446744073709551615 := by
  obtain ⟨a, b, c, d, _, _⟩ := h
  have p : (0 : Int) < 2 ^ j := by have := Nat.two_pow_pos j; exact_mod_cast this
  have e : (2 : Int) ^ (j + 1) = 2 * 2 ^ j := by rw [Int.pow_succ]; omega
  rw [e] at d
  refine ⟨bits_join .u64 64 (by decide) (fun n h0 h1 => by rw [IntKind.wrap_u64]; omega) (j + 1) _ _ b c (by omega) (by omega) (by rw [e]; omega) (by omega), p, by omega, by omega⟩
theorem OfRel.take {n x : Int} {j : Nat} (h : OfRel n x (j + 1)) (g : (x + 2 ^ j) * (x + 2 ^ j) ≤ n) : OfRel n (x + 2 ^ j) j := by
  obtain ⟨a, b, c, d, f, i⟩ := h
  have p : (0 : Int) < 2 ^ j := by have := Nat.two_pow_pos j; exact_mod_cast this
  have e : (2 : Int) ^ (j + 1) = 2 ^ j + 2 ^ j := by rw [Int.pow_succ]; omega
  rw [e] at d i
  rw [Int.pow_succ] at c
  refine ⟨by omega, by omega, ?_, by omega, g, by rw [Int.add_assoc]; exact i⟩
  rw [Int.add_emod_right]
  exact Int.emod_eq_zero_of_dvd (Int.dvd_trans ⟨2, rfl⟩ (Int.dvd_of_emod_eq_zero c))
theorem OfRel.leave {n x : Int} {j : Nat} (h : OfRel n x (j + 1)) (g : n < (x + 2 ^ j) * (x + 2 ^ j)) : OfRel n x j := by
  obtain ⟨a, b, c, d, f, i⟩ := h
  have p : (0 : Int) < 2 ^ j := by have := Nat.two_pow_pos j; exact_mod_cast this
  have e : (2 : Int) ^ (j + 1) = 2 ^ j + 2 ^ j := by rw [Int.pow_succ]; omega
  rw [e] at d i
  rw [Int.pow_succ] at c
  refine ⟨by omega, b, ?_, by omega, f, g⟩
  exact Int.emod_eq_zero_of_dvd (Int.dvd_trans ⟨2, rfl⟩ (Int.dvd_of_emod_eq_zero c))

set_option maxHeartbeats 1000000 in
theorem rootOf_any (n : Int) (w : World) (h0 : 0 ≤ n) (h1 : n ≤ 340282366920938463463374607431768211455) :
    Calls Tryz.prog 129 #[wide n] w fun e w' => e = .returned (.int .u64 (rt n)) ∧ Grew w w' := by
  have hw : wide n = .agg #[.int .u64 (n / 18446744073709551616), .int .u64 (n % 18446744073709551616)] := rfl
  obtain ⟨W0, hW0⟩ : ∃ W0, W0 = w.alloc (.cells #[.int .u64 (n / 18446744073709551616), .int .u64 (n % 18446744073709551616)] 146) := ⟨_, rfl⟩
  have G0 : Grew w W0 := by rw [hW0]; exact (Grew.refl w).alloc _ _
  have c0 : W0.cell? ⟨w.heap.size, 0, none⟩ = some (.int .u64 (n / 18446744073709551616)) := by rw [hW0]; simp [go_sem]
  have c1 : W0.cell? ⟨w.heap.size, 1, none⟩ = some (.int .u64 (n % 18446744073709551616)) := by rw [hW0]; simp [go_sem]
  rw [hw]
  go_enter Tryz.func129, Tryz.ntmps129
  go_wp2_with (first
    | (go_at_call 146; rw [← hW0, ← hw]; refine (length_any n _ h0 h1).mono ?_; rintro e W1 ⟨⟨l, hl, hn, rfl⟩, G1⟩; have c2 := G1.cell c0; have c3 := G1.cell c1))
  clear c2 c3 hW0
  go_loopw [3, 4] (fun r k v => ∃ (x : Int) (j : Nat), r = .int .u64 x ∧ k = .int .i64 j ∧ OfRel n x j ∧ Grew W0 v) (fun _ k _ => (intOf k).toNat)
  case atStart => exact ⟨0, (l + 1) / 2, rfl, by rw [Int.natCast_ediv]; rfl, OfRel.start n l h0 hl hn, G1⟩
  case round =>
    obtain ⟨x, j, rfl, rfl, R, G⟩ := hrel
    have c2 := G.cell c0
    have c3 := G.cell c1
    cases j with
    | zero =>
      go_wp2
      go_ret
      exact ⟨ret_int (OfRel.stop h1 R).symm, G0.trans G⟩
    | succ j =>
      have hj : ((j + 1 : Nat) : Int) = (j : Int) + 1 := rfl
      rw [hj]
      have hj0 : (0 : Int) ≤ j := by omega
      have hj1 : (j : Int) ≤ 63 := by have := R.1; omega
      obtain ⟨b1, b2, b3, b4⟩ := R.bit
      have bw : IntKind.u64.wrap (2 ^ j) = 2 ^ j := by rw [IntKind.wrap_u64]; have := R.2.1; omega
      obtain ⟨y, hy⟩ : ∃ y : Int, y = x + 2 ^ j := ⟨_, rfl⟩
      have hor : bits .or .u64 x (IntKind.u64.wrap (2 ^ j)) = y := by rw [bw, b1, hy]
      rw [← hy] at b3 b4
      have R1 : Hid (y * y ≤ n → OfRel n y j) := fun g => by rw [hy] at g ⊢; exact R.take g
      have R2 : Hid (n < y * y → OfRel n x j) := fun g => by rw [hy] at g; exact R.leave g
      clear b1 b2 bw hy R
      go_wp2
      go_region_with (first
        | (go_at_call 131; refine (square_any y _ b3 b4).mono ?_; rintro e V1 ⟨rfl, V⟩; have d2 := V.cell c2; have d3 := V.cell c3)
        | (go_at_call 147; rw [← hw]; refine (above_any (y * y) n _).mono ?_; rintro e V2 ⟨rfl, V'⟩))
      all_goals
        have GG : Grew W0 V2 := (G.drew.trans V).trans V'
        by_cases g : n < y * y
        · have gd : decide (n < y * y) = true := decide_eq_true g
          rw [gd]
          have R3 : Hid (OfRel n x j) := R2.out g
          clear g gd
          go_wp2
          go_roundw
          case rel => exact ⟨x, j, rfl, rfl, R3.out, GG⟩
          case measure => simp [intOf]
        · have gd : decide (n < y * y) = false := decide_eq_false g
          rw [gd]
          have R3 : Hid (OfRel n y j) := R1.out (Int.not_lt.1 g)
          clear g gd
          go_wp2
          go_roundw
          case rel => exact ⟨y, j, rfl, rfl, R3.out, GG⟩
          case measure => simp [intOf]

theorem wide_small (n : Int) (h0 : 0 ≤ n) (h1 : n ≤ 18446744073709551615) : wide n = .agg #[.int .u64 0, .int .u64 n] := by
  unfold wide
  rw [show n / 18446744073709551616 = 0 by omega, show n % 18446744073709551616 = n by omega]


set_option maxHeartbeats 400000 in
theorem len_any (x y : Int) (w : World) (hx : inF x) (hy : inF y) :
    Calls Tryz.prog 115 #[.int .i64 x, .int .i64 y] w fun e w' => e = .returned (.tuple #[.int .i64 (lenR x y).1, .int .i64 (lenR x y).2]) ∧ Grew w w' := by
  obtain ⟨s0, s1⟩ := inF_sum hx hy
  obtain ⟨r0, r1⟩ := rt_u64 s0 s1
  have x0 := ab_nonneg x; have x1 := ab_le hx; have y0 := ab_nonneg y; have y1 := ab_le hy
  have q1 := inF_sq hx; have q2 := inF_sq hy
  obtain ⟨r, hr⟩ : ∃ r, rt (x * x + y * y) = r := ⟨_, rfl⟩
  unfold lenR
  rw [hr] at r0 r1 ⊢
  by_cases h : r < 9223372036854775808
  · rw [if_pos h]
    go_enter Tryz.func115, Tryz.ntmps115
    have G := Grew.refl w
    go_wp2_with (first
      | (go_at_call 132; refine (rsize_any _ _ (by assumption)).mono ?_; rintro e w' ⟨rfl, rfl⟩)
      | (go_at_call 131; refine (square_any _ _ (ab_nonneg _) (by omega)).mono ?_; rintro e V ⟨rfl, U⟩; rw [ab_sq]; replace G := G.trans U; clear U)
      | (go_at_call 130; refine (add2_any _ _ _ q1.1 q2.1 s1).mono ?_; rintro e V ⟨rfl, U⟩; replace G := G.trans U; clear U)
      | (go_at_call 129; refine (rootOf_any _ _ s0 s1).mono ?_; rintro e V ⟨rfl, U⟩; rw [hr]; replace G := G.trans U; clear U))
    go_ret2
    exact ⟨rfl, G⟩
  · rw [if_neg h]
    have h' : 9223372036854775808 ≤ r := by omega
    clear h
    go_enter Tryz.func115, Tryz.ntmps115
    have G := Grew.refl w
    go_wp2_with (first
      | (go_at_call 132; refine (rsize_any _ _ (by assumption)).mono ?_; rintro e w' ⟨rfl, rfl⟩)
      | (go_at_call 131; refine (square_any _ _ (ab_nonneg _) (by omega)).mono ?_; rintro e V ⟨rfl, U⟩; rw [ab_sq]; replace G := G.trans U; clear U)
      | (go_at_call 130; refine (add2_any _ _ _ q1.1 q2.1 s1).mono ?_; rintro e V ⟨rfl, U⟩; replace G := G.trans U; clear U)
      | (go_at_call 129; refine (rootOf_any _ _ s0 s1).mono ?_; rintro e V ⟨rfl, U⟩; rw [hr]; replace G := G.trans U; clear U))
    go_ret2
    exact ⟨rfl, G⟩
end Go.Proofs.YtcoooehcgbohgaaGreat

namespace Go.Proofs.YtcoooehcgbohgaaGreat
open Go Go.RowKit

theorem frozen_of_heap {w w' : World} {p : Addr} (h : w'.heap[p.block]? = w.heap[p.block]?) : w'.frozen? p = w.frozen? p := by
  unfold World.frozen?
  rw [h]

/-- W is w with new blocks, and of the old ones those of S may have been written. -/
structure But (S : Nat → Prop) (w W : World) : Prop where
  os : W.os = w.os
  tape : W.tape = w.tape
  output : W.output = w.output
  size : w.heap.size ≤ W.heap.size
  block : ∀ i, i < w.heap.size → ¬ S i → W.heap[i]? = w.heap[i]?
theorem But.refl (S : Nat → Prop) (w : World) : But S w w := ⟨rfl, rfl, rfl, Nat.le_refl _, fun _ _ _ => rfl⟩
theorem But.trans {S : Nat → Prop} {a b c : World} (h : But S a b) (g : But S b c) : But S a c :=
  ⟨g.os.trans h.os, g.tape.trans h.tape, g.output.trans h.output, Nat.le_trans h.size g.size, fun i hi hn => (g.block i (Nat.lt_of_lt_of_le hi h.size) hn).trans (h.block i hi hn)⟩
theorem But.more {S T : Nat → Prop} {a b : World} (h : But S a b) (hS : ∀ n, n < a.heap.size → S n → T n) : But T a b := ⟨h.os, h.tape, h.output, h.size, fun i hi hn => h.block i hi fun e => hn (hS i hi e)⟩
theorem Below.but {S : Nat → Prop} {w W : World} (h : Below w.heap.size w W) : But S w W := ⟨h.os, h.tape, h.output, h.size, fun i hi _ => h.block i hi⟩
theorem Grew.but {S : Nat → Prop} {w W : World} (h : Grew w W) : But S w W := Go.Proofs.YtcoooehcgbohgaaGreat.Below.but h.below
theorem But.below {S : Nat → Prop} {B : Nat} {w W : World} (h : But S w W) (hS : ∀ n, S n → B ≤ n) (hB : B ≤ w.heap.size) : Below B w W := ⟨h.os, h.tape, h.output, h.size, fun i hi => h.block i (by omega) fun e => by have := hS i e; omega⟩
theorem But.set {S : Nat → Prop} {w W : World} (h : But S w W) {b : Nat} (hb : S b) (o : Nat) (s : Option Nat) (v : Value) : But S w (W.setCell ⟨b, o, s⟩ v) :=
  h.trans ⟨rfl, rfl, rfl, by simp [World.setCell], fun i _ hn => Below.heap_setCell _ _ _ _ (fun e => hn (e ▸ hb))⟩
theorem But.alloc {S : Nat → Prop} {w W : World} (h : But S w W) (o : Obj) : But S w (W.alloc o) := h.trans ⟨rfl, rfl, rfl, by simp, fun i hi _ => Below.heap_alloc _ _ _ hi⟩
theorem But.cell {S : Nat → Prop} {w W : World} (h : But S w W) {p : Addr} {v : Value} (hc : w.cell? p = some v) (hn : ¬ S p.block) : W.cell? p = some v := by
  rw [cell_of_heap (h.block _ (cell_block hc) hn), hc]
theorem But.frozen {S : Nat → Prop} {w W : World} (h : But S w W) {p : Addr} (hc : p.block < w.heap.size) (hn : ¬ S p.block) (hz : w.frozen? p = false) : W.frozen? p = false := by
  rw [frozen_of_heap (h.block _ hc hn), hz]
theorem row_grew {w w' : World} {B n k : Nat} {E : TypeId} {v : Value} {xs : List Value} (h : w.ownsRow B E k v n xs) (g : Grew w w') : w'.ownsRow B E k v n xs := by
  refine ⟨h.1, ?_⟩
  rcases h.2 with h | ⟨b, cap, cur, e, hb, hg, r⟩
  · exact .inl h
  · exact .inr ⟨b, cap, cur, e, hb, (g.heap (Array.getElem?_eq_some_iff.1 hg).1).trans hg, r⟩
theorem row_but {S : Nat → Prop} {w w' : World} {B n k : Nat} {E : TypeId} {v : Value} {xs : List Value} (h : w.ownsRow B E k v n xs) (g : But S w w') (hS : ∀ i, v.ownBlock = some i → ¬ S i) : w'.ownsRow B E k v n xs := by
  refine ⟨h.1, ?_⟩
  rcases h.2 with h | ⟨b, cap, cur, rfl, hb, hg, r⟩
  · exact .inl h
  · exact .inr ⟨b, cap, cur, rfl, hb, (g.block _ (Array.getElem?_eq_some_iff.1 hg).1 (hS b rfl)).trans hg, r⟩
theorem row_base {w : World} {B B' n k : Nat} {E : TypeId} {v : Value} {xs : List Value} (h : w.ownsRow B E k v n xs) (hB : B' ≤ B) : w.ownsRow B' E k v n xs := by
  refine ⟨h.1, ?_⟩
  rcases h.2 with h | ⟨b, cap, cur, e, hb, r⟩
  · exact .inl h
  · exact .inr ⟨b, cap, cur, e, Nat.le_trans hB hb, r⟩
end Go.Proofs.YtcoooehcgbohgaaGreat
