/-
  The statements' own first look ('alive' of stage 6's laws): it returns true; what was there stays.
-/
import Derived.Test.YtfidjlagfnbknaaVUnit
import Derived.Test.YtfidjlagfnbknaaVTry
namespace Go.Proofs.Ytfidjlagfnbknaa
open Go.RowKit

theorem al_len : lenR 12884901888 17179869184 = (21474836480, 0) := by
  unfold lenR
  rw [show rt (12884901888 * 12884901888 + 17179869184 * 17179869184) = 21474836480 from rt_eq ⟨by decide, by decide, by decide⟩ (by decide)]
  decide
theorem al_d1 : divR 12884901888 21474836480 = (2576980377, 0) := by decide +kernel
theorem al_d2 : divR 17179869184 21474836480 = (3435973836, 0) := by decide +kernel
theorem al_unit : unitR 12884901888 17179869184 = ((2576980377, 3435973836), 21474836480, 0) := by
  have h := @unitR_ok 12884901888 17179869184
  rw [al_len] at h
  simp only [al_d1, al_d2] at h
  exact h trivial (by decide) rfl
theorem al_over : outV (two (divR 0 0) (divR 0 0)) = .panicked [fault 4] := rfl

/-- A place that lies in memory. -/
def At (w : World) (b : Nat) (x y : Int) : Prop := w.cell? ⟨b, 0, none⟩ = some (.int .i64 x) ∧ w.cell? ⟨b, 1, none⟩ = some (.int .i64 y)
theorem At.wrote {S : Nat → Prop} {w W : World} {b : Nat} {x y : Int} (h : At w b x y) (g : Wrote S w W) (hb : ¬ S b) : At W b x y := ⟨g.cell h.1 hb, g.cell h.2 hb⟩
theorem At.grew {w W : World} {b : Nat} {x y : Int} (h : At w b x y) (g : Grew w W) : At W b x y := ⟨g.cell h.1, g.cell h.2⟩
theorem At.heap {w W : World} {b : Nat} {x y : Int} (h : At w b x y) (g : W.heap[b]? = w.heap[b]?) : At W b x y := ⟨by rw [cell_of_heap g]; exact h.1, by rw [cell_of_heap g]; exact h.2⟩
/-- .. and may be written. -/
def Free (w : World) (b : Nat) : Prop := ∀ o s, w.frozen? ⟨b, o, s⟩ = false
theorem Grew.freeB {w₀ w : World} (h : Grew w₀ w) {b : Nat} (hb : w₀.heap.size ≤ b) : Free w b := fun _ _ => h.free hb
theorem Free.grew {w W : World} {b : Nat} (h : Free w b) (g : Grew w W) : Free W b := fun o s => g.frozen (h o s)
theorem at_set (w : World) (b : Nat) (x y u v : Int) (h : At w b x y) : At ((w.setCell ⟨b, 0, none⟩ (.int .i64 u)).setCell ⟨b, 1, none⟩ (.int .i64 v)) b u v := by
  obtain ⟨h1, h2⟩ := h
  constructor <;> simp [go_sem, h1, h2]

/-- What a closure that asks a number leaves: the error, and the number where there is none. -/
def Left (X : Nat) (d : Int × Int) (k : Int) (W : World) : Prop := k = d.2 ∧ (k = 0 → W.cell? ⟨X, 0, none⟩ = some (.int .i64 d.1))
theorem Left.keep {X n : Nat} {d : Int × Int} (hX : X < n) : ∀ k W W', (∀ i, i < n → W'.heap[i]? = W.heap[i]?) → Left X d k W → Left X d k W' :=
  fun _ _ _ hh h => ⟨h.1, fun hk => by rw [cell_of_heap (hh X hX)]; exact h.2 hk⟩

/-- .. that asks a place. -/
def LeftV (X : Nat) (d : Int × Int × Int) (k : Int) (W : World) : Prop := k = d.2.2 ∧ (k = 0 → At W X d.1 d.2.1)
theorem LeftV.keep {X n : Nat} {d : Int × Int × Int} (hX : X < n) : ∀ k W W', (∀ i, i < n → W'.heap[i]? = W.heap[i]?) → LeftV X d k W → LeftV X d k W' :=
  fun _ _ _ hh h => ⟨h.1, fun hk => (h.2 hk).heap (hh X hX)⟩

theorem eq_vec (x y u v : Int) (w : World) : (binOp .eql 24 (.agg #[.int .i64 x, .int .i64 y]) (.agg #[.int .i64 u, .int .i64 v])).run Try.prog w = .ok (.bool (x == u && y == v)) w := by
  have hu := run_underlying Try.underlying24 w
  have hd : ∀ t x y, Op.equal t x y = Op.equalIn (9998 + 1 + 1) t x y := fun _ _ _ => rfl
  simp only [binOp, hd]
  rw [Op.equalIn]
  simp [go_sem, hu]
  by_cases h1 : x = u <;> by_cases h2 : y = v <;> simp [h1, h2]
theorem ne_vec (x y u v : Int) (w : World) : (binOp .neq 24 (.agg #[.int .i64 x, .int .i64 y]) (.agg #[.int .i64 u, .int .i64 v])).run Try.prog w = .ok (.bool (!(x == u && y == v))) w := by
  have hu := run_underlying Try.underlying24 w
  have hd : ∀ t x y, Op.equal t x y = Op.equalIn (9998 + 1 + 1) t x y := fun _ _ _ => rfl
  simp only [binOp, hd]
  rw [Op.equalIn]
  simp [go_sem, hu]
  by_cases h1 : x = u <;> by_cases h2 : y = v <;> simp [h1, h2]
theorem same_vec (x y : Int) (w : World) : (binOp .eql 24 (.agg #[.int .i64 x, .int .i64 y]) (.agg #[.int .i64 x, .int .i64 y])).run Try.prog w = .ok (.bool true) w := by
  rw [eq_vec]; simp

theorem Free.wrote {S : Nat → Prop} {w W : World} {b : Nat} (h : Free w b) (g : Wrote S w W) (hb : ¬ S b) (hs : b < w.heap.size) : Free W b := fun o s => g.frozen (p := ⟨b, o, s⟩) hs hb (h o s)
theorem At.size {w : World} {b : Nat} {x y : Int} (h : At w b x y) : b < w.heap.size := cell_block h.1
theorem Grew.set1 {W V : World} (U : Grew W V) (S : Nat) (p q : Value) : Wrote (fun n => n = S) W ((V.setCell ⟨S, 0, none⟩ p).setCell ⟨S, 1, none⟩ q) := (U.wrote.set (S := fun n => n = S) rfl _ _ _).set (S := fun n => n = S) rfl _ _ _

/-- A place and a number, laid into two variables. -/
theorem at_set2 (V : World) (a b : Nat) (hab : a ≠ b) (x y u v n : Int) (z : Value) (h : At V a x y) (hb : V.cell? ⟨b, 0, none⟩ = some z) :
    At (((V.setCell ⟨a, 0, none⟩ (.int .i64 u)).setCell ⟨a, 1, none⟩ (.int .i64 v)).setCell ⟨b, 0, none⟩ (.int .i64 n)) a u v ∧ (((V.setCell ⟨a, 0, none⟩ (.int .i64 u)).setCell ⟨a, 1, none⟩ (.int .i64 v)).setCell ⟨b, 0, none⟩ (.int .i64 n)).cell? ⟨b, 0, none⟩ = some (.int .i64 n) := by
  have A := at_set V a x y u v h
  have P := past_setCell b ((V.setCell ⟨a, 0, none⟩ (.int .i64 u)).setCell ⟨a, 1, none⟩ (.int .i64 v)) 0 none (.int .i64 n)
  refine ⟨⟨P.cell hab A.1, P.cell hab A.2⟩, ?_⟩
  have h1 := (past_setCell a V 0 none (.int .i64 u)).cell (p := ⟨b, 0, none⟩) hab.symm hb
  have h2 := (past_setCell a (V.setCell ⟨a, 0, none⟩ (.int .i64 u)) 1 none (.int .i64 v)).cell (p := ⟨b, 0, none⟩) hab.symm h1
  exact World.cell?_setCell_same _ _ _ h2
theorem wrote_set2 {S : Nat → Prop} {W V : World} (U : Wrote S W V) (a b : Nat) (ha : S a) (hb : S b) (u v n : Value) :
    Wrote S W (((V.setCell ⟨a, 0, none⟩ u).setCell ⟨a, 1, none⟩ v).setCell ⟨b, 0, none⟩ n) := ((U.set ha _ _ _).set ha _ _ _).set hb _ _ _

set_option maxHeartbeats 400000 in
theorem al1_any (a b : Nat) (hab : a ≠ b) (W : World) (hu : At W a 0 0) (hn : W.cell? ⟨b, 0, none⟩ = some (.int .i64 0)) (zu : Free W a) (zn : Free W b) :
    Calls Try.prog 38 #[.pointer (some ⟨a, 0, none⟩), .pointer (some ⟨b, 0, none⟩)] W fun e w' =>
      Wrote (fun n => n = a ∨ n = b) W w' ∧ ∃ x, (e = .returned (.tuple #[]) ∧ x = 0 ∨ e = .panicked [fault x]) ∧ (x = 0 ∧ At w' a 2576980377 3435973836 ∧ w'.cell? ⟨b, 0, none⟩ = some (.int .i64 21474836480)) := by
  have HU : Hid (∀ W, Calls Try.prog 18 #[.agg #[.int .i64 12884901888, .int .i64 17179869184]] W fun e w' => e = .returned (.tuple #[.agg #[.int .i64 2576980377, .int .i64 3435973836], .int .i64 21474836480]) ∧ Grew W w') := fun W => by
    have := vunit_any 12884901888 17179869184 W ⟨by decide, by decide⟩ ⟨by decide, by decide⟩
    rw [al_unit] at this
    exact this
  obtain ⟨u0, u1⟩ := hu
  go_enter Try.func38, Try.ntmps38
  go_wp2_with (first
    | (go_at_call 18; go_fit (HU.out _); rintro e V ⟨rfl, U⟩; have c0 := U.cell u0; have c1 := U.cell u1; have c2 := U.cell hn; have z0 := U.frozen (zu 0 none); have z1 := U.frozen (zu 1 none); have z2 := U.frozen (zn 0 none)))
  go_end0
  exact ⟨wrote_set2 U.wrote a b (.inl rfl) (.inr rfl) _ _ _, 0, .inl ⟨rfl, rfl⟩, rfl, at_set2 V a b hab 0 0 _ _ _ _ ⟨c0, c1⟩ c2⟩

theorem al2_any (w : World) :
    Calls Try.prog 39 #[] w fun e w' => e = .panicked [fault 4] ∧ Grew w w' := by
  have HO : Hid (∀ W, Calls Try.prog 15 #[.agg #[.int .i64 0, .int .i64 0], .int .i64 0] W fun e w' => e = .panicked [fault 4] ∧ Grew W w') := fun W => by
    have := vover_any 0 0 0 W ⟨by decide, by decide⟩ ⟨by decide, by decide⟩ ⟨by decide, by decide⟩
    rw [al_over] at this
    exact this
  go_enter Try.func39, Try.ntmps39
  go_wp2_with (first
    | (go_at_call 15; go_fit (HO.out _); rintro e V ⟨rfl, U⟩))
  exact ⟨rfl, rfl, U⟩

set_option maxHeartbeats 400000 in
theorem alive_any (w : World) :
    Calls Try.prog 9 #[] w fun e w' => e = .returned (.bool true) ∧ Grew w w' := by
  have hmf := mk_func
  go_enter Try.func9, Try.ntmps9
  go_wp2_with (fail)
  refine (try_set (S := fun n => n = w.heap.size ∨ n = w.heap.size + 1) (P := fun x W => x = 0 ∧ At W w.heap.size 2576980377 3435973836 ∧ W.cell? ⟨w.heap.size + 1, 0, none⟩ = some (.int .i64 21474836480)) _ _ _ (fun _ => by simp [go_sem]) (fun n hn => by simp [go_sem]; omega) ?_ ?_).mono ?_
  · rintro x W W' hh ⟨h1, h2, h3⟩
    simp [go_sem] at hh
    exact ⟨h1, h2.heap (hh _ (by omega)), by rw [cell_of_heap (hh _ (by simp))]; exact h3⟩
  · intro W0 G
    exact al1_any _ _ (by omega) W0 ⟨G.cell (by simp [go_sem]), G.cell (by simp [go_sem])⟩ (G.cell (by simp [go_sem])) ((((Grew.refl w).alloc _ _).alloc _ _).trans G |>.freeB (by omega)) ((((Grew.refl w).alloc _ _).alloc _ _).trans G |>.freeB (by omega))
  rintro e V ⟨hW, x, rfl, rfl, ⟨c0, _⟩, c1⟩
  have G1 : Grew w V := hW.to (((Grew.refl w).alloc _ _).alloc _ _) (fun n hn => by omega)
  clear hW
  go_wp2_with (fail)
  refine (try_set (S := fun _ => False) (P := fun x _ => x = 4) 39 #[] V (fun _ => by simp [go_sem]) (fun n hn => hn.elim) (fun _ _ _ _ h => h) (fun W0 _ => (al2_any W0).mono ?_)).mono ?_
  · rintro e w' ⟨rfl, g⟩
    exact ⟨g.wrote, 4, .inr rfl, rfl⟩
  rintro e V2 ⟨hW, x, rfl, rfl⟩
  have G2 : Grew V V2 := hW.to (Grew.refl _) (fun _ h => h.elim)
  have c2 := G2.cell c0
  have c3 := G2.cell c1
  clear hW c0 c1
  go_wp2
  go_ret
  exact ⟨rfl, G1.trans G2⟩
end Go.Proofs.Ytfidjlagfnbknaa
