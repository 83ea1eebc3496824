/-
  Bytes that a function of package sheet lays one behind the other: append of bytes, of a string; a number's bytes behind what is there.
-/
import Derived.Test.YtjcocmoidboamaaZRef
import Derived.Test.YtjcocmoidboamaaUApp
import Derived.Test.YtjcocmoidboamaaBBut
import Derived.Test.YtjcocmoidboamaaYPut
import Derived.Lib.AppendStr
namespace Go.Proofs.Ytjcocmoidboamaa
open Go Go.RowKit
open Go.Lib (strCells run_append_own_string run_append_room_string run_append_grow_string)

theorem byte_parts : ∃ i : TypeInfo, (Try.prog).info? 5 = some i ∧ i.zero = some (.int .u8 0) ∧ i.size = 1 ∧ i.bytes = 1 := by
  have h : ((Try.prog).info? 5).map (fun i => (i.zero, i.size, i.bytes)) = some (some (.int .u8 0), 1, 1) := by kernel_rfl
  cases hq : (Try.prog).info? 5 with
  | none => rw [hq] at h; cases h
  | some i =>
    rw [hq] at h
    simp only [Option.map_some, Option.some.injEq, Prod.mk.injEq] at h
    exact ⟨i, rfl, h.1, h.2.1, h.2.2⟩
/-- v' came of v: of what was there v's own block alone may be another one, and v' lies in it, or in a new one. -/
structure Onto (v v' : Value) (w w' : World) : Prop where
  but : But (fun i => v.ownBlock = some i) w w'
  own : ∀ i, v'.ownBlock = some i → v.ownBlock = some i ∨ w.heap.size ≤ i
theorem Onto.refl (v : Value) (w : World) : Onto v v w w := ⟨But.refl _ _, fun _ h => .inl h⟩
theorem Onto.trans {v v' v'' : Value} {w w' w'' : World} (h : Onto v v' w w') (g : Onto v' v'' w' w'') : Onto v v'' w w'' := by
  have s1 := h.but.size
  refine ⟨⟨g.but.os.trans h.but.os, g.but.tape.trans h.but.tape, g.but.output.trans h.but.output, by have := g.but.size; omega, fun i hi hn => ?_⟩, fun i e => ?_⟩
  · refine (g.but.block i (by omega) fun e => ?_).trans (h.but.block i hi hn)
    rcases h.own i e with e | e
    · exact hn e
    · omega
  · rcases g.own i e with e | e
    · exact h.own i e
    · exact .inr (by omega)
theorem Onto.grew {v v' : Value} {w w' w'' : World} (h : Onto v v' w w') (g : Grew w' w'') : Onto v v' w w'' := ⟨h.but.trans (Go.Proofs.Ytjcocmoidboamaa.Grew.but g), h.own⟩
theorem Onto.ahead {v v' : Value} {w w' w'' : World} (g : Grew w w') (h : Onto v v' w' w'') : Onto v v' w w'' := ⟨(Go.Proofs.Ytjcocmoidboamaa.Grew.but g).trans h.but, fun i e => (h.own i e).imp id fun l => Nat.le_trans g.size l⟩
/-- Bytes that v owns, in a world that is as w0 was, up to w0's end. -/
structure Bt (w0 w : World) (v : Value) (D : List UInt8) : Prop where
  row : w.ownsRow w0.heap.size 5 1 v D.length (u8V D)
  bel : Below w0.heap.size w0 w
section
variable {w0 w w' : World} {v v' : Value} {D X : List UInt8}
theorem Bt.grew (h : Bt w0 w v D) (g : Grew w w') : Bt w0 w' v D := ⟨row_grew h.row g, h.bel.trans (g.below.mono h.bel.size)⟩
theorem Bt.slice (h : Bt w0 w v D) : ∃ a cap, v = .slice a D.length cap := by
  obtain ⟨a, cap, e, _⟩ := own_reads h.row
  exact ⟨a, cap, e⟩
theorem Bt.slot (h : Bt w0 w v D) : ∃ a n cap, v = .slice a n cap ∧ Hid (n = D.length) ∧ w.ownsRow w0.heap.size 5 1 v n (u8V D) := by
  obtain ⟨a, cap, e⟩ := h.slice
  exact ⟨a, _, cap, e, rfl, h.row⟩
theorem Bt.onto (h : Bt w0 w v D) (hv : w'.ownsRow w0.heap.size 5 1 v' (D.length + X.length) (u8V D ++ u8V X)) (hg : w.grownBy w' v.ownBlock) (ho : v'.ownBlock = v.ownBlock ∨ v'.ownBlock = some w.heap.size) :
    Bt w0 w' v' (D ++ X) ∧ Onto v v' w w' := by
  have hB : But (fun i => v.ownBlock = some i) w w' := ⟨hg.os, hg.tape, hg.output, hg.size, fun i hi hn => hg.block i hi (fun e => hn e.symm)⟩
  refine ⟨⟨?_, h.bel.trans (hB.below (fun i e => (h.row.lt i e).1) h.bel.size)⟩, hB, fun i e => ?_⟩
  · rw [List.length_append]
    have : u8V (D ++ X) = u8V D ++ u8V X := by simp [u8V]
    rw [this]
    exact hv
  · rcases ho with ho | ho
    · exact .inl (ho ▸ e)
    · rw [ho] at e
      cases e
      exact .inr (Nat.le_refl _)
/-- What another block holds is held still. -/
theorem Onto.cell (h : Onto v v' w w') {p : Addr} {u : Value} (hc : w.cell? p = some u) (hn : v.ownBlock ≠ some p.block) : w'.cell? p = some u ∧ v'.ownBlock ≠ some p.block := by
  refine ⟨h.but.cell hc hn, fun e => ?_⟩
  rcases h.own _ e with e | e
  · exact hn e
  · have := cell_block hc
    omega
end
theorem u8_one (D : List UInt8) : ∀ u ∈ u8V D, u.oneCell' = true := by
  intro u hu
  simp only [u8V, List.mem_map] at hu
  obtain ⟨b, _, rfl⟩ := hu
  rfl
theorem u8V_len (D : List UInt8) : (u8V D).length = D.length := by simp [u8V]
/-- append(b, s...): where the new one lies. -/
theorem run_app_str {P : Program} (w : World) (base : Nat) (t u ty e : TypeId) (i : TypeInfo) (ht : P.underlying t = some (.slice e)) (hu : P.underlying u = some .string) (hi : P.info? e = some i) (hz : i.zero = some (.int .u8 0))
    (hsize : i.size = 1) (hby : i.bytes = 1)
    (v : Value) (n : Nat) (xs : List Value) (hown : w.ownsRow base e 1 v n xs) (s : ByteArray)
    (h63 : n + s.size ≤ maxLen) (hbytes : n + s.size ≤ 140737488355328) (hbase : base ≤ w.heap.size) :
    ∃ v' w', (Builtin.append_ #[t, u] ty #[v, .string s]).run P w = .ok v' w' ∧ w'.ownsRow base e 1 v' (n + s.size) (xs ++ strCells s) ∧ w.grownBy w' v.ownBlock ∧ (v'.ownBlock = v.ownBlock ∨ v'.ownBlock = some w.heap.size) := by
  obtain ⟨v', w', hr, h2, h3, h4⟩ := run_append_own_string (P := P) w base t u ty e i ht hu hi hz hsize hby v n xs hown s h63 hbytes hbase
  refine ⟨v', w', hr, h2, h3, ?_⟩
  have hsmall : n + s.size ≤ 9223372036854775807 := by simp only [maxLen] at h63; omega
  have hxl : xs.length = n := by simpa using hown.1
  rcases hown.2 with ⟨rfl, rfl⟩ | ⟨g, cap, cur, rfl, hbg, hg, hnc, hcm, hcs, htake⟩
  · by_cases hm : s.size = 0
    · rw [h4.2 ⟨rfl, hm⟩]
      exact .inl rfl
    · have hr2 := run_append_nil_string (P := P) w t u ty e i (.int .u8 0) ht hu hi hz s (by omega) (by omega) (by rw [hby]; omega)
      rw [hr] at hr2
      simp only [Result.ok.injEq] at hr2
      rw [hr2.1]
      exact .inr rfl
  · by_cases hroom : n + s.size ≤ cap
    · have hcs' : cur.size = cap := by simpa using hcs
      have hr2 := run_append_room_string (P := P) w t u ty e i ht hu hi hsize g n cap cur hg s hroom (by omega)
      rw [hr] at hr2
      simp only [Result.ok.injEq] at hr2
      rw [hr2.1]
      exact .inl rfl
    · have holds : ∀ j u, xs[j]? = some u → w.cell? ((⟨g, 0, none⟩ : Addr).add j) = some u := hown.cells (g := g) rfl
      have hr2 := run_append_grow_string (P := P) w t u ty e i (.int .u8 0) ht hu hi hz ⟨g, 0, none⟩ n cap xs (by rw [hsize]; simpa using hxl) holds s (by omega) (by omega) (by rw [hby]; exact growslice_fits (by omega) (by omega))
      rw [hr] at hr2
      simp only [Result.ok.injEq] at hr2
      rw [hr2.1]
      exact .inr rfl
theorem wpList_app_str {P : Program} {ops : Array Oper} {rest : List Oper} {o : Oper} {a : Act} {w : World} {Q : Exit → Act → World → Prop} (hgd : o.guard = none) (sl x : Operand) (t u : TypeId)
    (ho : o.op = .call { callee := .builtin .append, args := #[sl, x], argTypes := #[t, u] })
    (base : Nat) (e : TypeId) (i : TypeInfo) (ht : P.underlying t = some (.slice e)) (hu : P.underlying u = some .string) (hi : P.info? e = some i) (hz : i.zero = some (.int .u8 0))
    (hsize : i.size = 1) (hby : i.bytes = 1)
    (v : Value) (n : Nat) (xs : List Value) (hs : a.eval sl = v) (hown : w.ownsRow base e 1 v n xs) (s : ByteArray) (hx : a.eval x = .string s)
    (h63 : n + s.size ≤ maxLen) (hbytes : n + s.size ≤ 140737488355328) (hbase : base ≤ w.heap.size)
    (h : ∀ v' w', w'.ownsRow base e 1 v' (n + s.size) (xs ++ strCells s) → w.grownBy w' v.ownBlock → (v'.ownBlock = v.ownBlock ∨ v'.ownBlock = some w.heap.size) → wpList P ops Q rest (a.put o.dst v') w') : wpList P ops Q (o :: rest) a w := by
  refine wpList_plain hgd fun K hK => ?_
  obtain ⟨v', w', hr, h2, h3, h4⟩ := run_app_str (P := P) w base t u o.type e i ht hu hi hz hsize hby v n xs hown s h63 hbytes hbase
  unfold Oper.wp execOp
  simp only [ho, resolve, invoke, builtin, Sem.run_bind, Sem.run_pure, Result.andThen_ok, List.map_toArray, List.map_cons, List.map_nil, hs, hx, hr]
  exact hK _ _ (h v' w' h2 h3 h4)

/-- A number's bytes behind what is there. -/
theorem abig_any (w0 w : World) (v : Value) (D : List UInt8) (n k : Nat) (hn : n < 9223372036854775808) (hk : k ≤ 8) (hD : D.length ≤ 100000) (h : Bt w0 w v D) :
    Calls Try.prog 31 #[v, .int .i64 n, .int .i64 k] w fun e w' => ∃ v', e = .returned v' ∧ Bt w0 w' v' (D ++ digs n k) ∧ Onto v v' w w' := by
  obtain ⟨i0, hi0, hz0, hz1, hz2⟩ := byte_parts
  obtain ⟨E, hE⟩ : ∃ E, digs n k = E := ⟨_, rfl⟩
  have hl : E.length = k := by rw [← hE]; exact digs_len k n
  obtain ⟨a, cap, rfl⟩ := h.slice
  rw [hE]
  replace hE : Hid (digs n k = E) := hE
  replace hn : Hid (n < 9223372036854775808) := hn
  go_enter Try.func31, Try.ntmps31
  go_wp2
  go_loopw [0, 9] (fun b i wr => ∃ j : Nat, j ≤ k ∧ i = .int .i64 j ∧ Bt w0 wr b (D ++ E.take j) ∧ Onto (.slice a D.length cap) b w wr) (fun _ i _ => k - (intOf i).toNat)
  case atStart => exact ⟨0, by omega, rfl, by rw [List.take_zero, List.append_nil]; exact h, Onto.refl _ _⟩
  case round =>
    obtain ⟨j, hj, rfl, hb, ho⟩ := hrel
    by_cases hlt : j < k
    · have hi : (j : Int) < k := by omega
      obtain ⟨a1, cap1, rfl⟩ := hb.slice
      have hlen : (D ++ E.take j).length ≤ 200000 := by rw [List.length_append, List.length_take]; omega
      have hs := shr_in n j k hlt E hE.out.symm (by omega)
      have hbl := hb.bel.size
      go_wp2_with (first
        | (at_builtin; refine wpList_app _ rfl (.tmp 12) (.tmp 21) 53 rfl w0.heap.size 5 i0 (.int .u8 0) 1 1 Try.underlying53 hi0 hz0 hz1 hz2 rfl (by decide) (.slice a1 (D ++ E.take j).length cap1) _ _ rfl (hb.row.alloc _) (some ⟨wr.heap.size, 0, none⟩) 1 1 (u8V [E[j]'(by omega)]) rfl (by simp [u8V]) (.inr ⟨_, _, rfl, fun c u hc => by match c, hc with | 0, hc => (simp [u8V] at hc; subst hc; simp [go_sem])⟩) (u8_one _) (by unfold maxLen; omega) (by omega) (by simp; omega) ?_; intro v1 w1 hv1 hg1 hk1 ho1)
        | fail)
      obtain ⟨b1, b2⟩ := (hb.grew ((Grew.refl wr).alloc _ _)).onto (X := [E[j]'(by omega)]) hv1 hg1 ho1
      have e : E.take (j + 1) = E.take j ++ [E[j]'(by omega)] := List.take_succ_eq_append_getElem (by omega)
      refine ⟨⟨j + 1, by omega, by simp, ?_, ho.trans (Onto.ahead ((Grew.refl wr).alloc _ _) b2)⟩, meas_up hlt⟩
      rw [e, ← List.append_assoc]
      exact b1
    · have hi : ¬ (j : Int) < k := by omega
      obtain rfl : j = k := by omega
      rw [List.take_of_length_le (by omega)] at hb
      go_wp2
      go_ret
      exact ⟨_, rfl, hb, ho⟩
end Go.Proofs.Ytjcocmoidboamaa
