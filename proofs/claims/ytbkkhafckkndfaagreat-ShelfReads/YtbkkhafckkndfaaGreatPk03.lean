/-
  What package crown's right and Put do, strings.Repeat at zeros, and the document's own CrownPut. Bytes that a function of package sheet lays one behind the other: append of bytes, of a string; a number's bytes behind what is there. Package sheet's filled: bytes, and zeros up to a page's end; strings.Clone. A page that is taken to pieces from its front on (package sheet's pieces): take, number, text. The document's own Index: slots in memory, as a page. The document's own Slots: a page's slots, as a new list.
-/
import Derived.Test.YtbkkhafckkndfaaGreatPk01
import Derived.Test.YtbkkhafckkndfaaGreatPxYLay
import Derived.Test.YtbkkhafckkndfaaGreatPk02
import Derived.Deep.DeepFit
import Derived.Lib.AppendStr
import Derived.Test.YtbkkhafckkndfaaGreatPxZLay
namespace Go.Proofs.YtbkkhafckkndfaaGreat
open Go Go.RowKit Go.Shelf

theorem rep_extra : Builder.Extra Tryz.prog Tryz.laysRepeat_ren := {
  sizeBuilder := by kernel_rfl
  liesBuilder := by kernel_rfl
  t5 := Tryz.laysRepeat.t5
  a5 := Tryz.laysRepeat.a5
  z5 := Tryz.laysRepeat.z5
  v5 := Tryz.laysRepeat.v5
  infoByte := by kernel_rfl
  cellsByte := by kernel_rfl
  sizeByte := by kernel_rfl
  neB5 := by decide }
theorem rep_num : Tryz.laysRepeat_ren.f 105 = 90 := by kernel_rfl
/-- Zeros. -/
theorem repeat_any (k : Nat) (hk : k ≤ 1000) (w : World) : Calls Tryz.prog 90 #[.string ⟨#[0]⟩, .int .i64 k] w fun e w' => e = .returned (.string (zerosB k)) ∧ Below w.heap.size w w' := by
  have h := Any.strings_Repeat Tryz.laysRepeat rep_extra ⟨#[0]⟩ k w (by omega) (by show 1 * k ≤ _; omega)
  rw [rep_num] at h
  refine h.mono fun e w' ⟨he, hw⟩ => ⟨?_, hw⟩
  rw [he]
  have e : Lib.repeatL (ByteArray.mk #[0]).data.toList k = List.replicate k 0 := by
    have := Lib.repeatL_replicate 0 1 k
    simpa using this
  rw [e]
  rfl

/-- A crown as a value. -/
def Cr.val (c : Cr) : Value := .agg #[.int .i64 c.g, .int .i64 c.r, .int .i64 c.p]
def Cr.ok (c : Cr) : Prop := inF c.g ∧ inF c.r ∧ inF c.p
/-- A crown that lies at block b. -/
structure CAt (w : World) (b : Nat) (c : Cr) : Prop where
  g : w.cell? ⟨b, 0, none⟩ = some (.int .i64 c.g)
  r : w.cell? ⟨b, 1, none⟩ = some (.int .i64 c.r)
  p : w.cell? ⟨b, 2, none⟩ = some (.int .i64 c.p)
theorem CAt.keep {w w' : World} {b : Nat} {c : Cr} (h : CAt w b c) (k : ∀ o v, w.cell? ⟨b, o, none⟩ = some v → w'.cell? ⟨b, o, none⟩ = some v) : CAt w' b c := ⟨k _ _ h.g, k _ _ h.r, k _ _ h.p⟩
theorem CAt.grew {w w' : World} {b : Nat} {c : Cr} (h : CAt w b c) (g : Grew w w') : CAt w' b c := h.keep fun _ _ e => g.cell e
theorem below_cell {w w' : World} (h : Below w.heap.size w w') {p : Addr} {v : Value} (hc : w.cell? p = some v) : w'.cell? p = some v := by
  rw [cell_of_heap (h.block _ (cell_block hc)), hc]
theorem CAt.below {w w' : World} {b : Nat} {c : Cr} (h : CAt w b c) (g : Below w.heap.size w w') : CAt w' b c := h.keep fun _ _ e => below_cell g e
theorem cat_new (w : World) (c : Cr) (t : TypeId) : CAt (w.alloc (.cells #[.int .i64 c.g, .int .i64 c.r, .int .i64 c.p] t)) w.heap.size c := ⟨by simp [go_sem], by simp [go_sem], by simp [go_sem]⟩

/-! ### Put -/
theorem put_apart (c : Cr) : putB c = bigB c.g.toNat 8 ++ bigB c.r.toNat 2 ++ bigB c.p.toNat 2 ++ zerosB 108 ++ bigB c.g.toNat 8 := by
  apply ByteArray.ext
  simp only [ByteArray.data_append, putB, bigB, zerosB, putL, List.append_toArray]
end Go.Proofs.YtbkkhafckkndfaaGreat

namespace Go.Proofs.YtbkkhafckkndfaaGreat
open Go Go.RowKit
open Go.Lib (strCells run_append_own_string run_append_room_string run_append_grow_string)

theorem byte_parts : ∃ i : TypeInfo, (Tryz.prog).info? 5 = some i ∧ i.zero = some (.int .u8 0) ∧ i.size = 1 ∧ i.bytes = 1 := by
  have h : ((Tryz.prog).info? 5).map (fun i => (i.zero, i.size, i.bytes)) = some (some (.int .u8 0), 1, 1) := by kernel_rfl
  cases hq : (Tryz.prog).info? 5 with
  | none => rw [hq] at h; cases h
  | some i =>
    rw [hq] at h
    simp only [Option.map_some, Option.some.injEq, Prod.mk.injEq] at h
    exact ⟨i, rfl, h.1, h.2.1, h.2.2⟩
/-- v' came of v: of what was there v's own block alone may be another one, and v' lies in it, or in a new one. -/
structure Onto (v v' : Value) (w w' : World) : Prop where
  but : But (fun i => v.ownBlock = some i) w w'
  own : ∀ i, v'.ownBlock = some i → v.ownBlock = some i ∨ w.heap.size ≤ i
theorem Onto.refl (v : Value) (w : World) : Onto v v w w := ⟨But.refl _ _, fun _ h => .inl h⟩
theorem Onto.trans {v v' v'' : Value} {w w' w'' : World} (h : Onto v v' w w') (g : Onto v' v'' w' w'') : Onto v v'' w w'' := by
  have s1 := h.but.size
  refine ⟨⟨g.but.os.trans h.but.os, g.but.tape.trans h.but.tape, g.but.output.trans h.but.output, by have := g.but.size; omega, fun i hi hn => ?_⟩, fun i e => ?_⟩
  · refine (g.but.block i (by omega) fun e => ?_).trans (h.but.block i hi hn)
    rcases h.own i e with e | e
    · exact hn e
    · omega
  · rcases g.own i e with e | e
    · exact h.own i e
    · exact .inr (by omega)
theorem Onto.grew {v v' : Value} {w w' w'' : World} (h : Onto v v' w w') (g : Grew w' w'') : Onto v v' w w'' := ⟨h.but.trans (Go.Proofs.YtbkkhafckkndfaaGreat.Grew.but g), h.own⟩
theorem Onto.ahead {v v' : Value} {w w' w'' : World} (g : Grew w w') (h : Onto v v' w' w'') : Onto v v' w w'' := ⟨(Go.Proofs.YtbkkhafckkndfaaGreat.Grew.but g).trans h.but, fun i e => (h.own i e).imp id fun l => Nat.le_trans g.size l⟩
/-- Bytes that v owns, in a world that is as w0 was, up to w0's end. -/
structure Bt (w0 w : World) (v : Value) (D : List UInt8) : Prop where
  row : w.ownsRow w0.heap.size 5 1 v D.length (u8V D)
  bel : Below w0.heap.size w0 w
section
variable {w0 w w' : World} {v v' : Value} {D X : List UInt8}
theorem Bt.grew (h : Bt w0 w v D) (g : Grew w w') : Bt w0 w' v D := ⟨row_grew h.row g, h.bel.trans (g.below.mono h.bel.size)⟩
theorem Bt.slice (h : Bt w0 w v D) : ∃ a cap, v = .slice a D.length cap := by
  obtain ⟨a, cap, e, _⟩ := own_reads h.row
  exact ⟨a, cap, e⟩
theorem Bt.slot (h : Bt w0 w v D) : ∃ a n cap, v = .slice a n cap ∧ Hid (n = D.length) ∧ w.ownsRow w0.heap.size 5 1 v n (u8V D) := by
  obtain ⟨a, cap, e⟩ := h.slice
  exact ⟨a, _, cap, e, rfl, h.row⟩
theorem Bt.onto (h : Bt w0 w v D) (hv : w'.ownsRow w0.heap.size 5 1 v' (D.length + X.length) (u8V D ++ u8V X)) (hg : w.grownBy w' v.ownBlock) (ho : v'.ownBlock = v.ownBlock ∨ v'.ownBlock = some w.heap.size) :
    Bt w0 w' v' (D ++ X) ∧ Onto v v' w w' := by
  have hB : But (fun i => v.ownBlock = some i) w w' := ⟨hg.os, hg.tape, hg.output, hg.size, fun i hi hn => hg.block i hi (fun e => hn e.symm)⟩
  refine ⟨⟨?_, h.bel.trans (hB.below (fun i e => (h.row.lt i e).1) h.bel.size)⟩, hB, fun i e => ?_⟩
  · rw [List.length_append]
    have : u8V (D ++ X) = u8V D ++ u8V X := by simp [u8V]
    rw [this]
    exact hv
  · rcases ho with ho | ho
    · exact .inl (ho ▸ e)
    · rw [ho] at e
      cases e
      exact .inr (Nat.le_refl _)
/-- What another block holds is held still. -/
theorem Onto.cell (h : Onto v v' w w') {p : Addr} {u : Value} (hc : w.cell? p = some u) (hn : v.ownBlock ≠ some p.block) : w'.cell? p = some u ∧ v'.ownBlock ≠ some p.block := by
  refine ⟨h.but.cell hc hn, fun e => ?_⟩
  rcases h.own _ e with e | e
  · exact hn e
  · have := cell_block hc
    omega
end
theorem u8_one (D : List UInt8) : ∀ u ∈ u8V D, u.oneCell' = true := by
  intro u hu
  simp only [u8V, List.mem_map] at hu
  obtain ⟨b, _, rfl⟩ := hu
  rfl
theorem u8V_len (D : List UInt8) : (u8V D).length = D.length := by simp [u8V]
/-- append(b, s...): where the new one lies. -/
theorem run_app_str {P : Program} (w : World) (base : Nat) (t u ty e : TypeId) (i : TypeInfo) (ht : P.underlying t = some (.slice e)) (hu : P.underlying u = some .string) (hi : P.info? e = some i) (hz : i.zero = some (.int .u8 0))
    (hsize : i.size = 1) (hby : i.bytes = 1)
    (v : Value) (n : Nat) (xs : List Value) (hown : w.ownsRow base e 1 v n xs) (s : ByteArray)
    (h63 : n + s.size ≤ maxLen) (hbytes : n + s.size ≤ 140737488355328) (hbase : base ≤ w.heap.size) :
    ∃ v' w', (Builtin.append_ #[t, u] ty #[v, .string s]).run P w = .ok v' w' ∧ w'.ownsRow base e 1 v' (n + s.size) (xs ++ strCells s) ∧ w.grownBy w' v.ownBlock ∧ (v'.ownBlock = v.ownBlock ∨ v'.ownBlock = some w.heap.size) := by
  obtain ⟨v', w', hr, h2, h3, h4⟩ := run_append_own_string (P := P) w base t u ty e i ht hu hi hz hsize hby v n xs hown s h63 hbytes hbase
  refine ⟨v', w', hr, h2, h3, ?_⟩
  have hsmall : n + s.size ≤ 9223372036854775807 := by simp only [maxLen] at h63; omega
  have hxl : xs.length = n := by simpa using hown.1
  rcases hown.2 with ⟨rfl, rfl⟩ | ⟨g, cap, cur, rfl, hbg, hg, hnc, hcm, hcs, htake⟩
  · by_cases hm : s.size = 0
    · rw [h4.2 ⟨rfl, hm⟩]
      exact .inl rfl
    · have hr2 := run_append_nil_string (P := P) w t u ty e i (.int .u8 0) ht hu hi hz s (by omega) (by omega) (by rw [hby]; omega)
      rw [hr] at hr2
      simp only [Result.ok.injEq] at hr2
      rw [hr2.1]
      exact .inr rfl
  · by_cases hroom : n + s.size ≤ cap
    · have hcs' : cur.size = cap := by simpa using hcs
      have hr2 := run_append_room_string (P := P) w t u ty e i ht hu hi hsize g n cap cur hg s hroom (by omega)
      rw [hr] at hr2
      simp only [Result.ok.injEq] at hr2
      rw [hr2.1]
      exact .inl rfl
    · have holds : ∀ j u, xs[j]? = some u → w.cell? ((⟨g, 0, none⟩ : Addr).add j) = some u := hown.cells (g := g) rfl
      have hr2 := run_append_grow_string (P := P) w t u ty e i (.int .u8 0) ht hu hi hz ⟨g, 0, none⟩ n cap xs (by rw [hsize]; simpa using hxl) holds s (by omega) (by omega) (by rw [hby]; exact growslice_fits (by omega) (by omega))
      rw [hr] at hr2
      simp only [Result.ok.injEq] at hr2
      rw [hr2.1]
      exact .inr rfl
theorem wpList_app_str {P : Program} {ops : Array Oper} {rest : List Oper} {o : Oper} {a : Act} {w : World} {Q : Exit → Act → World → Prop} (hgd : o.guard = none) (sl x : Operand) (t u : TypeId)
    (ho : o.op = .call { callee := .builtin .append, args := #[sl, x], argTypes := #[t, u] })
    (base : Nat) (e : TypeId) (i : TypeInfo) (ht : P.underlying t = some (.slice e)) (hu : P.underlying u = some .string) (hi : P.info? e = some i) (hz : i.zero = some (.int .u8 0))
    (hsize : i.size = 1) (hby : i.bytes = 1)
    (v : Value) (n : Nat) (xs : List Value) (hs : a.eval sl = v) (hown : w.ownsRow base e 1 v n xs) (s : ByteArray) (hx : a.eval x = .string s)
    (h63 : n + s.size ≤ maxLen) (hbytes : n + s.size ≤ 140737488355328) (hbase : base ≤ w.heap.size)
    (h : ∀ v' w', w'.ownsRow base e 1 v' (n + s.size) (xs ++ strCells s) → w.grownBy w' v.ownBlock → (v'.ownBlock = v.ownBlock ∨ v'.ownBlock = some w.heap.size) → wpList P ops Q rest (a.put o.dst v') w') : wpList P ops Q (o :: rest) a w := by
  refine wpList_plain hgd fun K hK => ?_
  obtain ⟨v', w', hr, h2, h3, h4⟩ := run_app_str (P := P) w base t u o.type e i ht hu hi hz hsize hby v n xs hown s h63 hbytes hbase
  unfold Oper.wp execOp
  simp only [ho, resolve, invoke, builtin, Sem.run_bind, Sem.run_pure, Result.andThen_ok, List.map_toArray, List.map_cons, List.map_nil, hs, hx, hr]
  exact hK _ _ (h v' w' h2 h3 h4)

/-- A number's bytes behind what is there. -/
theorem abig_any (w0 w : World) (v : Value) (D : List UInt8) (n k : Nat) (hn : n < 9223372036854775808) (hk : k ≤ 8) (hD : D.length ≤ 100000) (h : Bt w0 w v D) :
    Calls Tryz.prog 78 #[v, .int .i64 n, .int .i64 k] w fun e w' => ∃ v', e = .returned v' ∧ Bt w0 w' v' (D ++ digs n k) ∧ Onto v v' w w' := by
  obtain ⟨i0, hi0, hz0, hz1, hz2⟩ := byte_parts
  obtain ⟨E, hE⟩ : ∃ E, digs n k = E := ⟨_, rfl⟩
  have hl : E.length = k := by rw [← hE]; exact digs_len k n
  obtain ⟨a, cap, rfl⟩ := h.slice
  rw [hE]
  replace hE : Hid (digs n k = E) := hE
  replace hn : Hid (n < 9223372036854775808) := hn
  go_enter Tryz.func78, Tryz.ntmps78
  go_wp2
  go_loopw [0, 9] (fun b i wr => ∃ j : Nat, j ≤ k ∧ i = .int .i64 j ∧ Bt w0 wr b (D ++ E.take j) ∧ Onto (.slice a D.length cap) b w wr) (fun _ i _ => k - (intOf i).toNat)
  case atStart => exact ⟨0, by omega, rfl, by rw [List.take_zero, List.append_nil]; exact h, Onto.refl _ _⟩
  case round =>
    obtain ⟨j, hj, rfl, hb, ho⟩ := hrel
    by_cases hlt : j < k
    · have hi : (j : Int) < k := by omega
      obtain ⟨a1, cap1, rfl⟩ := hb.slice
      have hlen : (D ++ E.take j).length ≤ 200000 := by rw [List.length_append, List.length_take]; omega
      have hs := shr_in n j k hlt E hE.out.symm (by omega)
      have hbl := hb.bel.size
      go_wp2_with (first
        | (at_builtin; refine wpList_app _ rfl (.tmp 12) (.tmp 21) 60 rfl w0.heap.size 5 i0 (.int .u8 0) 1 1 Tryz.underlying60 hi0 hz0 hz1 hz2 rfl (by decide) (.slice a1 (D ++ E.take j).length cap1) _ _ rfl (hb.row.alloc _) (some ⟨wr.heap.size, 0, none⟩) 1 1 (u8V [E[j]'(by omega)]) rfl (by simp [u8V]) (.inr ⟨_, _, rfl, fun c u hc => by match c, hc with | 0, hc => (simp [u8V] at hc; subst hc; simp [go_sem])⟩) (u8_one _) (by unfold maxLen; omega) (by omega) (by simp; omega) ?_; intro v1 w1 hv1 hg1 hk1 ho1)
        | fail)
      obtain ⟨b1, b2⟩ := (hb.grew ((Grew.refl wr).alloc _ _)).onto (X := [E[j]'(by omega)]) hv1 hg1 ho1
      have e : E.take (j + 1) = E.take j ++ [E[j]'(by omega)] := List.take_succ_eq_append_getElem (by omega)
      refine ⟨⟨j + 1, by omega, by simp, ?_, ho.trans (Onto.ahead ((Grew.refl wr).alloc _ _) b2)⟩, meas_up hlt⟩
      rw [e, ← List.append_assoc]
      exact b1
    · have hi : ¬ (j : Int) < k := by omega
      obtain rfl : j = k := by omega
      rw [List.take_of_length_le (by omega)] at hb
      go_wp2
      go_ret
      exact ⟨_, rfl, hb, ho⟩
end Go.Proofs.YtbkkhafckkndfaaGreat

namespace Go.Proofs.YtbkkhafckkndfaaGreat
open Go Go.RowKit Go.Shelf

theorem row_below {w w' : World} {B n k : Nat} {E : TypeId} {v : Value} {xs : List Value} (h : w.ownsRow B E k v n xs) (g : Below w.heap.size w w') : w'.ownsRow B E k v n xs :=
  row_but h (Go.Proofs.YtbkkhafckkndfaaGreat.Below.but (S := fun _ => False) g) (fun _ _ e => e)
theorem clone_num : Tryz.laysClone_ren.f 316 = 82 := by kernel_rfl
theorem sclone_any (s : ByteArray) (hs : s.size ≤ 281474976710656) (w : World) : Calls Tryz.prog 82 #[.string s] w fun e w' => e = .returned (.string s) ∧ Below w.heap.size w w' := by
  have h := Any.stringslite_Clone Tryz.laysClone s w hs
  rw [clone_num] at h
  exact h
theorem strclone_any (s : ByteArray) (hs : s.size ≤ 281474976710656) (w : World) : Calls Tryz.prog 55 #[.string s] w fun e w' => e = .returned (.string s) ∧ Below w.heap.size w w' := by
  go_enter Tryz.func55, Tryz.ntmps55
  go_wp2_with (first | (go_at_call 82; go_fit (sclone_any s hs _); rintro e w1 ⟨rfl, B⟩) | fail)
  go_ret
  exact ⟨rfl, B⟩
set_option maxHeartbeats 1000000 in
theorem filled_any (w0 w : World) (v : Value) (L : List UInt8) (h : Bt w0 w v L) (h0 : L ≠ []) (hL : L.length ≤ 128) :
    Calls Tryz.prog 76 #[v] w fun e w' => e = .returned (.string (txt (padL L))) ∧ Below w.heap.size w w' := by
  obtain ⟨g, cap, rfl⟩ : ∃ g cap, v = .slice (some ⟨g, 0, none⟩) L.length cap := by
    rcases h.row.2 with ⟨_, e⟩ | ⟨g, cap, cur, e, _⟩
    · exact absurd (List.eq_nil_of_length_eq_zero e) h0
    · exact ⟨g, cap, e⟩
  have hconv : Hid (∀ W, Below w.heap.size w W → (convert 60 9 (.slice (some ⟨g, 0, none⟩) L.length cap)).run Tryz.prog W = .ok (.string (txt L)) W) := fun W hB => conv_own (row_below h.row hB) rfl
  have hZ : Hid (∀ W, Calls Tryz.prog 90 #[.string ⟨#[0]⟩, .int .i64 (IntKind.i64.wrap (128 - (L.length : Int)))] W fun e w' => e = .returned (.string (txt (List.replicate (128 - L.length) 0))) ∧ Below W.heap.size W w') := fun W => by
    have := repeat_any (128 - L.length) (by omega) W
    rw [show ((128 - L.length : Nat) : Int) = IntKind.i64.wrap (128 - (L.length : Int)) by rw [IntKind.wrap_i64]; omega] at this
    exact this
  have hp : Hid (txt L ++ txt (List.replicate (128 - L.length) 0) = txt (padL L)) := txt_append _ _
  have s1 := txt_size L
  have s2 : (txt (List.replicate (128 - L.length) 0)).size = 128 - L.length := by rw [txt_size, List.length_replicate]
  have hb : ¬ 9223372036854775807 < (txt L).size + (txt (List.replicate (128 - L.length) 0)).size := by rw [s1, s2]; omega
  clear s2 s1 h h0
  generalize txt (List.replicate (128 - L.length) 0) = Z at *
  generalize txt L = X at *
  go_enter Tryz.func76, Tryz.ntmps76
  go_upto_region 1 with (fail)
  refine lat_region (A := (fun W => Below w.heap.size w W)) (S := (fun _ => True)) [] (by kernel_rfl) ?_ (fun hH0 => ?_)
  · exact ⟨(Below.refl _ w).drew, trivial⟩
  refine lat_free (i := 0) (oi := { dst := some 3, op := Go.Op.move (Go.Operand.tmp 0), type := 60, pos := "sheet.go:190", after := #[], guard := none }) (v := ?vfi1) rfl (by kernel_rfl) (by kernel_rfl) (by kernel_rfl) (by kernel_rfl) (fun _ _ _ h => h) (Or.inl ⟨by rfl, ?hyfi1⟩) ⟨hH0.1, fun _ => hH0.2⟩ ?restfi1
  case hyfi1 => (intro w hAw; have hc := hconv.out _ hAw; go_simp; try (with_reducible rfl))
  simp only [Act.put, List.setIfInBounds_toArray, List.set_cons_zero, List.set_cons_succ]
  refine lat_free (i := 1) (oi := { dst := some 4, op := Go.Op.convert 60 9 (Go.Operand.tmp 3), type := 9, pos := "sheet.go:190", after := #[{ on := 0, ground := Go.Ground.data }], guard := none }) (v := ?vfi2) rfl (by kernel_rfl) (by kernel_rfl) (by kernel_rfl) (by kernel_rfl) (fun _ _ _ h => h) (Or.inl ⟨by rfl, ?hyfi2⟩) ⟨hH0.1, fun _ => hH0.2⟩ ?restfi2
  case hyfi2 => (intro w hAw; have hc := hconv.out _ hAw; go_simp; try (with_reducible rfl))
  simp only [Act.put, List.setIfInBounds_toArray, List.set_cons_zero, List.set_cons_succ]
  refine lat_free (i := 2) (oi := { dst := some 5, op := Go.Op.move (Go.Operand.tmp 0), type := 60, pos := "sheet.go:190", after := #[], guard := none }) (v := ?vfi3) rfl (by kernel_rfl) (by kernel_rfl) (by kernel_rfl) (by kernel_rfl) (fun _ _ _ h => h) (Or.inl ⟨by rfl, ?hyfi3⟩) ⟨hH0.1, fun _ => hH0.2⟩ ?restfi3
  case hyfi3 => (intro w hAw; have hc := hconv.out _ hAw; go_simp; try (with_reducible rfl))
  simp only [Act.put, List.setIfInBounds_toArray, List.set_cons_zero, List.set_cons_succ]
  refine lat_free (i := 3) (oi := { dst := some 6, op := Go.Op.call { callee := Go.Callee.builtin Go.Builtin.len, args := #[Go.Operand.tmp 5], argTypes := #[60] }, type := 3, pos := "sheet.go:190", after := #[{ on := 2, ground := Go.Ground.data }], guard := none }) (v := ?vfi4) rfl (by kernel_rfl) (by kernel_rfl) (by kernel_rfl) (by kernel_rfl) (fun _ _ _ h => h) (Or.inl ⟨by rfl, ?hyfi4⟩) ⟨hH0.1, fun _ => hH0.2⟩ ?restfi4
  case hyfi4 => (intro w hAw; have hc := hconv.out _ hAw; go_simp; try (with_reducible rfl))
  simp only [Act.put, List.setIfInBounds_toArray, List.set_cons_zero, List.set_cons_succ]
  refine lat_free (i := 4) (oi := { dst := some 7, op := Go.Op.binOp Go.BinOp.sub 3 (Go.Operand.const (Go.Value.int Go.IntKind.i64 128)) (Go.Operand.tmp 6) 3, type := 3, pos := "sheet.go:190", after := #[{ on := 3, ground := Go.Ground.data }], guard := none }) (v := ?vfi5) rfl (by kernel_rfl) (by kernel_rfl) (by kernel_rfl) (by kernel_rfl) (fun _ _ _ h => h) (Or.inl ⟨by rfl, ?hyfi5⟩) ⟨hH0.1, fun _ => hH0.2⟩ ?restfi5
  case hyfi5 => (intro w hAw; have hc := hconv.out _ hAw; go_simp; try (with_reducible rfl))
  simp only [Act.put, List.setIfInBounds_toArray, List.set_cons_zero, List.set_cons_succ]
  refine lat_one (i := 5) (by kernel_rfl) ?_
  refine lat_run (o := { dst := some 8, op := Go.Op.call { callee := Go.Callee.value (Go.Operand.func 90), args := #[Go.Operand.const (Go.Value.string { data := #[0] }), Go.Operand.tmp 7], argTypes := #[9, 3] }, type := 9, pos := "sheet.go:190", after := #[{ on := 4, ground := Go.Ground.data }], guard := none }) rfl (fun K hK => ?_)
  go_simp
  go_wp2_with (first
    | (go_at_call 90; go_fit (hZ.out _); rintro e w5 ⟨rfl, B5⟩)
    | fail)
  refine hK.out _ _ (⟨hH0.1.trans (B5.mono hH0.1.size), trivial⟩) (fun hHfi6 => ?_)
  clear hK K
  refine lat_free (i := 6) (oi := { dst := some 9, op := Go.Op.binOp Go.BinOp.add 9 (Go.Operand.tmp 4) (Go.Operand.tmp 8) 9, type := 9, pos := "sheet.go:190", after := #[{ on := 1, ground := Go.Ground.data }, { on := 5, ground := Go.Ground.data }], guard := none }) (v := ?vfi7) rfl (by kernel_rfl) (by kernel_rfl) (by kernel_rfl) (by kernel_rfl) (fun _ _ _ h => h) (Or.inl ⟨by rfl, ?hyfi7⟩) ⟨hHfi6.1, fun _ => hHfi6.2⟩ ?restfi7
  case hyfi7 => (intro w hAw; have hc := hconv.out _ hAw; go_simp; try (with_reducible rfl))
  simp only [Act.put, List.setIfInBounds_toArray, List.set_cons_zero, List.set_cons_succ]
  refine lat_free (i := 7) (oi := { dst := some 2, op := Go.Op.assign (Go.Operand.tmp 9), type := 9, pos := "sheet.go:190", after := #[{ on := 6, ground := Go.Ground.data }, { on := 5, ground := Go.Ground.chain }, { on := 0, ground := Go.Ground.phase }, { on := 1, ground := Go.Ground.phase }, { on := 2, ground := Go.Ground.phase }, { on := 3, ground := Go.Ground.phase }, { on := 4, ground := Go.Ground.phase }, { on := 5, ground := Go.Ground.phase }, { on := 6, ground := Go.Ground.phase }], guard := none }) (v := ?vfi8) rfl (by kernel_rfl) (by kernel_rfl) (by kernel_rfl) (by kernel_rfl) (fun _ _ _ h => h) (Or.inl ⟨by rfl, ?hyfi8⟩) ⟨hHfi6.1, fun _ => hHfi6.2⟩ ?restfi8
  case hyfi8 => (intro w hAw; have hc := hconv.out _ hAw; go_simp; try (with_reducible rfl))
  simp only [Act.put, List.setIfInBounds_toArray, List.set_cons_zero, List.set_cons_succ]
  refine lat_done (by kernel_rfl) ?_ _
  have BE := hHfi6.1
  go_wp2_with (fail)
  go_ret
  exact ⟨by rw [hp.out]; rfl, BE⟩
end Go.Proofs.YtbkkhafckkndfaaGreat

namespace Go.Proofs.YtbkkhafckkndfaaGreat
open Go Go.RowKit

/-- What is left of a page lies at block b. -/
structure PcAt (w : World) (b : Nat) (X : List UInt8) : Prop where
  c : w.cell? ⟨b, 0, none⟩ = some (.string (txt X))
  z : w.frozen? ⟨b, 0, none⟩ = false
section
variable {w w' : World} {b : Nat} {X Y : List UInt8}
theorem PcAt.lt (h : PcAt w b X) : b < w.heap.size := cell_block h.c
theorem PcAt.but {S : Nat → Prop} (h : PcAt w b X) (g : But S w w') (hb : ¬ S b) : PcAt w' b X := ⟨g.cell h.c hb, g.frozen h.lt hb h.z⟩
theorem PcAt.below (h : PcAt w b X) (g : Below w.heap.size w w') : PcAt w' b X := h.but (S := fun _ => False) (Go.Proofs.YtbkkhafckkndfaaGreat.Below.but g) (fun e => e)
theorem PcAt.grew (h : PcAt w b X) (g : Grew w w') : PcAt w' b X := h.below g.below
theorem PcAt.set (h : PcAt w b X) (Y : List UInt8) : PcAt (w.setCell ⟨b, 0, none⟩ (.string (txt Y))) b Y := by
  obtain ⟨h1, h2⟩ := h
  exact ⟨by simp [h1, go_sem], by simp [h2, go_sem]⟩
end
theorem take_size (X : List UInt8) (m : Nat) : txt (X.take m) = (txt X).extract 0 m := by rw [ext_list, list_txt, List.drop_zero, Nat.sub_zero]
theorem drop_size (X : List UInt8) (m : Nat) (_h : m ≤ X.length) : txt (X.drop m) = (txt X).extract m X.length := by
  rw [ext_list, list_txt, List.take_of_length_le]
  rw [List.length_drop]
  omega
theorem take_any (b n : Nat) (X : List UInt8) (w : World) (h : PcAt w b X) (_hX : X.length ≤ 1000000000) (_hn : n ≤ 1000000000) :
    Calls Tryz.prog 56 #[.pointer (some ⟨b, 0, none⟩), .int .i64 n] w fun e w' => e = .returned (.string (txt (X.take n))) ∧ PcAt w' b (X.drop n) ∧ But (fun i => i = b) w w' := by
  obtain ⟨m, hm⟩ : ∃ m, min n X.length = m := ⟨_, rfl⟩
  have hs := txt_size X
  have e1 : X.take n = X.take m := by
    rw [← hm]
    by_cases e : n ≤ X.length
    · rw [Nat.min_eq_left e]
    · rw [Nat.min_eq_right (by omega), List.take_of_length_le (by omega), List.take_of_length_le (Nat.le_refl _)]
  have e2 : X.drop n = X.drop m := by
    rw [← hm]
    by_cases e : n ≤ X.length
    · rw [Nat.min_eq_left e]
    · rw [Nat.min_eq_right (by omega), List.drop_of_length_le (by omega), List.drop_of_length_le (Nat.le_refl _)]
  have hmi : min (n : Int) ((txt X).size : Int) = m := by rw [hs]; omega
  have hml : (m : Int) ≤ ((txt X).size : Int) := by rw [hs]; omega
  have hm0 : (0 : Int) ≤ m := by omega
  have hq : Hid (PcAt (w.setCell ⟨b, 0, none⟩ (.string (txt (X.drop n)))) b (X.drop n)) := h.set _
  have hB : Hid (But (fun i => i = b) w (w.setCell ⟨b, 0, none⟩ (.string (txt (X.drop n))))) := (But.refl (fun i => i = b) w).set (b := b) rfl 0 none _
  rw [e2, drop_size X m (by omega), ← hs] at hB
  have hq2 := hq.out
  rw [e2] at hq2
  rw [e1, e2, take_size]
  replace hq : Hid (PcAt (w.setCell ⟨b, 0, none⟩ (.string ((txt X).extract m (txt X).size))) b (X.drop m)) := by
    rw [hs, ← drop_size X m (by omega)]
    exact hq2
  obtain ⟨hc, hz⟩ := h
  clear hm e1 e2 hs hq2
  generalize txt X = T at *
  generalize X.drop m = R at *
  go_enter Tryz.func56, Tryz.ntmps56
  go_wp2
  go_ret
  exact ⟨rfl, hq.out, hB.out⟩
theorem pnumber_any (b n : Nat) (X : List UInt8) (w : World) (h : PcAt w b X) (hX : X.length ≤ 1000000000) (hn : n ≤ 1000000000) :
    Calls Tryz.prog 57 #[.pointer (some ⟨b, 0, none⟩), .int .i64 n] w fun e w' => e = .returned (.int .i64 (numR (txt (X.take n)))) ∧ PcAt w' b (X.drop n) ∧ But (fun i => i = b) w w' := by
  have hT : Hid (Calls Tryz.prog 56 #[.pointer (some ⟨b, 0, none⟩), .int .i64 n] w fun e w' => e = .returned (.string (txt (X.take n))) ∧ PcAt w' b (X.drop n) ∧ But (fun i => i = b) w w') := take_any b n X w h hX hn
  obtain ⟨s, hs⟩ : ∃ s, txt (X.take n) = s := ⟨_, rfl⟩
  have hsz : s.size ≤ 1000000000 := by rw [← hs, txt_size, List.length_take]; omega
  rw [hs] at hT ⊢
  obtain ⟨R, hR⟩ : ∃ R, X.drop n = R := ⟨_, rfl⟩
  rw [hR] at hT ⊢
  clear hs hR hX h hn
  have hl : s.data.toList.length = s.size := Array.length_toList ..
  go_enter Tryz.func57, Tryz.ntmps57
  go_wp2_with (first | (go_at_call 56; go_fit hT.out; rintro e w1 ⟨rfl, h1, h2⟩) | fail)
  replace h1 := show Hid _ from h1
  replace h2 := show Hid _ from h2
  go_loopw [6, 13] (fun n i wr => ∃ k : Nat, k ≤ s.size ∧ i = .int .i64 k ∧ n = .int .i64 (wrap64 (valL (s.data.toList.take k))) ∧ wr = w1) (fun _ i _ => s.size - (intOf i).toNat)
  case atStart => exact ⟨0, by omega, rfl, by simp [valL, wrap64], rfl⟩
  case round =>
    obtain ⟨k, hk, rfl, rfl, rfl⟩ := hrel
    by_cases hlt : k < s.size
    · have hi : (k : Int) < s.size := by omega
      have e := (valL_take s.data.toList k (by omega)).symm
      rw [← byte_list s hlt] at e
      go_wp2
      refine ⟨⟨k + 1, by omega, by simp, congrArg (Value.int .i64) ?_, trivial⟩, ?_⟩
      · rw [← e]
        exact or_step _ _
      · exact meas_up hlt
    · have hi : ¬ (k : Int) < s.size := by omega
      go_wp2
      go_ret
      refine ⟨?_, h1.out, h2.out⟩
      rw [List.take_of_length_le (by omega)]
      rfl
theorem ptext_any (b n : Nat) (X : List UInt8) (w : World) (h : PcAt w b X) (hX : X.length ≤ 1000000000) (hn : n ≤ 1000000000) :
    Calls Tryz.prog 92 #[.pointer (some ⟨b, 0, none⟩), .int .i64 n] w fun e w' => e = .returned (.string (txt (X.take n))) ∧ PcAt w' b (X.drop n) ∧ But (fun i => i = b) w w' := by
  have hT : Hid (Calls Tryz.prog 56 #[.pointer (some ⟨b, 0, none⟩), .int .i64 n] w fun e w' => e = .returned (.string (txt (X.take n))) ∧ PcAt w' b (X.drop n) ∧ But (fun i => i = b) w w') := take_any b n X w h hX hn
  have hC : Hid (∀ W, Calls Tryz.prog 55 #[.string (txt (X.take n))] W fun e w' => e = .returned (.string (txt (X.take n))) ∧ Below W.heap.size W w') := fun W => strclone_any (txt (X.take n)) (by rw [txt_size, List.length_take]; omega) W
  obtain ⟨s, hs⟩ : ∃ s, txt (X.take n) = s := ⟨_, rfl⟩
  rw [hs] at hT hC ⊢
  clear hs hX h hn
  go_enter Tryz.func92, Tryz.ntmps92
  go_wp2_with (first
    | (go_at_call 56; go_fit hT.out; rintro e w1 ⟨rfl, h1, h2⟩)
    | (go_at_call 55; go_fit (hC.out _); rintro e w2 ⟨rfl, B⟩)
    | fail)
  go_ret
  exact ⟨rfl, h1.below B, h2.trans (Go.Proofs.YtbkkhafckkndfaaGreat.Below.but B)⟩
end Go.Proofs.YtbkkhafckkndfaaGreat

namespace Go.Proofs.YtbkkhafckkndfaaGreat
open Go Go.RowKit

/-- Slots that lie in memory. -/
def SlotAt (w : World) (b o : Nat) (s : Sl) : Prop := w.cell? ⟨b, o, none⟩ = some (.int .i64 s.key) ∧ w.cell? ⟨b, o + 1, none⟩ = some (.int .i64 s.page)
theorem SlotAt.grew {w w' : World} {b o : Nat} {s : Sl} (h : SlotAt w b o s) (g : Grew w w') : SlotAt w' b o s := ⟨g.cell h.1, g.cell h.2⟩
def SlotsAt (w : World) (a : Option Addr) (S : List Sl) : Prop := S = [] ∨ ∃ b off, a = some ⟨b, off, none⟩ ∧ ∀ i, i < S.length → SlotAt w b (off + i * 2) (S.getD i ⟨0, 0⟩)
theorem zmeas0 {n : Nat} (h : 0 < n) : n - (intOf (Value.int .i64 1)).toNat < n - (intOf (Value.int .i64 0)).toNat := by
  simp only [intOf]; omega
theorem zmeas1 {p n : Nat} (h : p + 1 < n) : n - (intOf (Value.int .i64 ((p : Int) + 1 + 1))).toNat < n - (intOf (Value.int .i64 ((p : Int) + 1))).toNat := by
  simp only [intOf]; omega
def idxV (S : List Sl) : ByteArray := if idxOk S then txt (idxL S) else ByteArray.empty
set_option maxRecDepth 10000 in
set_option maxHeartbeats 4000000 in
theorem refindex_any (S : List Sl) (a : Option Addr) (cap : Nat) (w : World) (hS : SlotsAt w a S) (hm : S.length < 1000000) : Calls Tryz.prog 40 #[.slice a S.length cap] w fun e w' => e = .returned (.tuple #[.string (idxV S), .bool (idxOk S)]) ∧ Grew w w' := by
  by_cases hn : 21 < S.length
  · have hni : (21 : Int) < S.length := by omega
    unfold idxV
    rw [idx_long hn, if_neg (by decide)]
    clear hn hS
    go_enter Tryz.func40, Tryz.ntmps40
    go_wp2
    go_ret2
    exact ⟨rfl, Grew.refl _⟩
  have hni : ¬ (21 : Int) < S.length := by omega
  obtain ⟨n, hN⟩ : ∃ n, S.length = n := ⟨_, rfl⟩
  have h1 : Hid (∀ W, Calls Tryz.prog 63 #[.int .i64 (n : Int), .int .i64 1] W fun e w' => e = .returned (.string (txt (digs n 1))) ∧ Grew W w') := fun W => refbig_any n 1 (by omega) (by omega) W
  have hfill : Hid (∀ W, _) := fun W => reffill_any (idxH S n) (by rw [idxH_len S n (by omega)]; omega) W
  have hstart : Hid ((⟨#[73]⟩ : ByteArray) ++ txt (digs n 1) = txt (idxH S 0)) := by
    show _ = _
    rw [show (⟨#[73]⟩ : ByteArray) = txt [73] from rfl, txt_append, ← hN]
    simp [idxH]
  have hAll : Hid ((∀ k, k < n → slOk S k = true) → idxV S = txt (padL (idxH S n)) ∧ idxOk S = true) := fun h => by
    have := idx_yes (by omega) (fun k hk => h k (by omega))
    refine ⟨?_, this⟩
    unfold idxV idxL
    rw [this, if_pos rfl, hN]
  have hNone : Hid (∀ k, k < n → slOk S k = false → Ending.returned (.tuple #[.string ByteArray.empty, .bool false]) = Ending.returned (.tuple #[.string (idxV S), .bool (idxOk S)])) := fun k hk h => by
    unfold idxV
    rw [idx_no (by omega) h, if_neg (by decide)]
  have z0 : ¬ 9223372036854775807 < (⟨#[73]⟩ : ByteArray).size + (txt (digs n 1)).size := by rw [txt_size, digs_len]; decide
  have hSz : Hid (∀ k, k ≤ n → (txt (idxH S k)).size ≤ 200) := fun k hk => by rw [txt_size, idxH_len S k (by omega)]; omega
  rw [hN]
  have hni : ¬ (21 : Int) < n := by omega
  have hNN : Hid (S.length = n) := hN
  have hn21 : n ≤ 21 := by omega
  clear hN hn hm
  go_enter Tryz.func40, Tryz.ntmps40
  go_wp2_with (first | (go_at_call 63; go_fit (h1.out _); rintro e w1 ⟨rfl, G0⟩) | fail)
  rw [hstart.out]
  go_loopw [4, 5] (fun s i wr => ∃ k : Nat, k ≤ n ∧ i = .int .i64 k ∧ s = .string (txt (idxH S k)) ∧ (∀ j, j < k → slOk S j = true) ∧ Grew w wr) (fun _ i _ => n - (intOf i).toNat)
  case atStart => exact ⟨0, by omega, rfl, rfl, fun j hj => absurd hj (by omega), G0⟩
  case round =>
    clear G0
    obtain ⟨k, hk, rfl, rfl, hok, hG⟩ := hrel
    by_cases hlt : k < n
    · have hki : (k : Int) < n := by omega
      obtain ⟨b, off, rfl, hcs⟩ := hS.resolve_left (fun e => by have := hNN.out; rw [e] at this; simp at this; omega)
      have hb := hcs k (by rw [hNN.out]; exact hlt)
      obtain ⟨K, hK0⟩ : ∃ K, (S.getD k ⟨0, 0⟩).key = K := ⟨_, rfl⟩
      obtain ⟨Q, hQ0⟩ : ∃ Q, (S.getD k ⟨0, 0⟩).page = Q := ⟨_, rfl⟩
      have hK : Hid (∀ W, _) := fun W => refkey_any K W
      have hP : Hid (∀ W, _) := fun W => refpage_any Q W
      have hup0 := idxH_up S k (by rw [hNN.out]; exact hlt)
      rw [hK0, hQ0] at hup0
      have hy := hSz.out k hk
      have e0 := (hb.grew hG).1
      have e1 := (hb.grew hG).2
      rw [hK0] at e0
      rw [hQ0] at e1
      unfold SlotAt at hb
      rw [hK0, hQ0] at hb
      replace hb : SlotAt w b (off + k * 2) ⟨K, Q⟩ := hb
      cases hkb : keyB K with
      | false =>
        rw [hkb] at hK
        have HF : Hid _ := hNone.out k hlt (by unfold slOk; rw [hK0, hkb]; rfl)
        clear hup0 hb hcs hok
        go_upto_region 7 with (fail)
        go_quiet (first
          | (go_at_call 64; exact Calls.quiet_of_same (hK.out _))
          | (go_at_call 65; exact Calls.quiet_of_same (hP.out _))
          | fail)
        go_wp2_with (fail)
        go_ret2
        exact ⟨HF.out, hG.drewN _⟩
      | true =>
        rw [hkb] at hK
        cases hpb : pageB Q with
        | false =>
          rw [hpb] at hP
          have HF : Hid _ := hNone.out k hlt (by unfold slOk; rw [hK0, hQ0, hkb, hpb]; rfl)
          clear hup0 hb hcs hok
          go_upto_region 7 with (fail)
          go_quiet (first
            | (go_at_call 64; exact Calls.quiet_of_same (hK.out _))
            | (go_at_call 65; exact Calls.quiet_of_same (hP.out _))
            | fail)
          go_wp2_with (fail)
          go_ret2
          exact ⟨HF.out, hG.drewN _⟩
        | true =>
          rw [hpb] at hP
          have hk1 := (keyB_iff K).1 hkb
          have hp1 := (pageB_iff Q).1 hpb
          have h4 : Hid (∀ W, Calls Tryz.prog 63 #[.int .i64 K, .int .i64 4] W fun e w' => e = .returned (.string (txt (digs K.toNat 4))) ∧ Grew W w') := fun W => by
            have := refbig_any K.toNat 4 (by omega) (by omega) W
            rw [show ((K.toNat : Nat) : Int) = K by omega] at this
            exact this
          have h2 : Hid (∀ W, Calls Tryz.prog 63 #[.int .i64 Q, .int .i64 2] W fun e w' => e = .returned (.string (txt (digs Q.toNat 2))) ∧ Grew W w') := fun W => by
            have := refbig_any Q.toNat 2 (by omega) (by omega) W
            rw [show ((Q.toNat : Nat) : Int) = Q by omega] at this
            exact this
          have hup : Hid (txt (idxH S k) ++ txt (digs K.toNat 4) ++ txt (digs Q.toNat 2) = txt (idxH S (k + 1))) := by
            show _ = _
            rw [txt_append, txt_append, hup0]
          have y4 : (txt (digs K.toNat 4)).size = 4 := by rw [txt_size, digs_len]
          have y2 : (txt (digs Q.toNat 2)).size = 2 := by rw [txt_size, digs_len]
          have Z1 : Hid (¬ 9223372036854775807 < (txt (idxH S k)).size + 4 ∧ ¬ 9223372036854775807 < (txt (idxH S k)).size + 4 + 2 ∧ ¬ 9223372036854775807 < (txt (idxH S k)).size + 6) := (by omega : ¬ 9223372036854775807 < (txt (idxH S k)).size + 4 ∧ ¬ 9223372036854775807 < (txt (idxH S k)).size + 4 + 2 ∧ ¬ 9223372036854775807 < (txt (idxH S k)).size + 6)
          clear hup0 hk1 hp1 hy
          cases k with
          | zero =>
            have hcur : Hid (∀ j, j < 0 + 1 → slOk S j = true) := fun j hj => by
              obtain rfl : j = 0 := by omega
              rw [slOk_zero, hK0, hQ0, hkb, hpb]
              rfl
            have e0 : wr.cell? ⟨b, off, none⟩ = some (.int .i64 K) := by simpa using e0
            have e1 : wr.cell? ⟨b, off + 1, none⟩ = some (.int .i64 Q) := by simpa using e1
            replace hb : SlotAt w b off ⟨K, Q⟩ := by simpa using hb
            have ep : True := trivial
            clear hcs hok
            go_upto_region 7 with (fail)
            go_quiet (first
              | (go_at_call 64; exact Calls.quiet_of_same (hK.out _))
              | (go_at_call 65; exact Calls.quiet_of_same (hP.out _))
              | fail)
            go_upto_region 9 with (fail)
            have hW : Grew w (wr.drewN nq) := hG.drewN _
            have d0 := (hb.grew hW).1
            have d1 := (hb.grew hW).2
            clear hG e0 e1 ep
            generalize wr.drewN nq = W at *
            have qSza : Hid (∀ w', Grew W w' → (w'.cell? ⟨b, off, none⟩ = some (.int .i64 K) ∧ w'.cell? ⟨b, off + 1, none⟩ = some (.int .i64 Q))) := fun w' g => ⟨g.cell d0, g.cell d1⟩
            refine kept_region W (by kernel_rfl) (by kernel_rfl) ?_
            refine kept_want ?vza0 (by rfl) ?yza0 ?rza0
            case yza0 => (intro w' hG; obtain ⟨q0, q1⟩ := qSza.out w' hG; clear hG; obtain ⟨z1, z2, z3⟩ := Z1.out; go_simp; try (with_reducible rfl))
            simp only [Act.put, List.setIfInBounds_toArray, List.set_cons_zero, List.set_cons_succ]
            refine kept_want ?vza1 (by rfl) ?yza1 ?rza1
            case yza1 => (intro w' hG; obtain ⟨q0, q1⟩ := qSza.out w' hG; clear hG; obtain ⟨z1, z2, z3⟩ := Z1.out; go_simp; try (with_reducible rfl))
            simp only [Act.put, List.setIfInBounds_toArray, List.set_cons_zero, List.set_cons_succ]
            refine kept_want ?vza2 (by rfl) ?yza2 ?rza2
            case yza2 => (intro w' hG; obtain ⟨q0, q1⟩ := qSza.out w' hG; clear hG; obtain ⟨z1, z2, z3⟩ := Z1.out; go_simp; try (with_reducible rfl))
            simp only [Act.put, List.setIfInBounds_toArray, List.set_cons_zero, List.set_cons_succ]
            refine kept_want ?vza3 (by rfl) ?yza3 ?rza3
            case yza3 => (intro w' hG; obtain ⟨q0, q1⟩ := qSza.out w' hG; clear hG; obtain ⟨z1, z2, z3⟩ := Z1.out; go_simp; try (with_reducible rfl))
            simp only [Act.put, List.setIfInBounds_toArray, List.set_cons_zero, List.set_cons_succ]
            refine kept_want ?vza4 (by rfl) ?yza4 ?rza4
            case yza4 => (intro w' hG; obtain ⟨q0, q1⟩ := qSza.out w' hG; clear hG; obtain ⟨z1, z2, z3⟩ := Z1.out; go_simp; try (with_reducible rfl))
            simp only [Act.put, List.setIfInBounds_toArray, List.set_cons_zero, List.set_cons_succ]
            refine kept_want ?vza5 (by rfl) ?yza5 ?rza5
            case yza5 => (intro w' hG; obtain ⟨q0, q1⟩ := qSza.out w' hG; clear hG; obtain ⟨z1, z2, z3⟩ := Z1.out; go_simp; try (with_reducible rfl))
            simp only [Act.put, List.setIfInBounds_toArray, List.set_cons_zero, List.set_cons_succ]
            refine kept_want ?vza6 (by rfl) ?yza6 ?rza6
            case yza6 => (intro w' hG; go_simp; refine (h4.out _).mono ?_; rintro e w'' ⟨rfl, U⟩; refine ⟨?_, hG.trans U⟩; with_reducible rfl)
            simp only [Act.put, List.setIfInBounds_toArray, List.set_cons_zero, List.set_cons_succ]
            refine kept_want ?vza7 (by rfl) ?yza7 ?rza7
            case yza7 => (intro w' hG; obtain ⟨q0, q1⟩ := qSza.out w' hG; clear hG; obtain ⟨z1, z2, z3⟩ := Z1.out; go_simp; try (with_reducible rfl))
            simp only [Act.put, List.setIfInBounds_toArray, List.set_cons_zero, List.set_cons_succ]
            refine kept_want ?vza8 (by rfl) ?yza8 ?rza8
            case yza8 => (intro w' hG; obtain ⟨q0, q1⟩ := qSza.out w' hG; clear hG; obtain ⟨z1, z2, z3⟩ := Z1.out; go_simp; try (with_reducible rfl))
            simp only [Act.put, List.setIfInBounds_toArray, List.set_cons_zero, List.set_cons_succ]
            refine kept_want ?vza9 (by rfl) ?yza9 ?rza9
            case yza9 => (intro w' hG; obtain ⟨q0, q1⟩ := qSza.out w' hG; clear hG; obtain ⟨z1, z2, z3⟩ := Z1.out; go_simp; try (with_reducible rfl))
            simp only [Act.put, List.setIfInBounds_toArray, List.set_cons_zero, List.set_cons_succ]
            refine kept_want ?vza10 (by rfl) ?yza10 ?rza10
            case yza10 => (intro w' hG; obtain ⟨q0, q1⟩ := qSza.out w' hG; clear hG; obtain ⟨z1, z2, z3⟩ := Z1.out; go_simp; try (with_reducible rfl))
            simp only [Act.put, List.setIfInBounds_toArray, List.set_cons_zero, List.set_cons_succ]
            refine kept_want ?vza11 (by rfl) ?yza11 ?rza11
            case yza11 => (intro w' hG; obtain ⟨q0, q1⟩ := qSza.out w' hG; clear hG; obtain ⟨z1, z2, z3⟩ := Z1.out; go_simp; try (with_reducible rfl))
            simp only [Act.put, List.setIfInBounds_toArray, List.set_cons_zero, List.set_cons_succ]
            refine kept_want ?vza12 (by rfl) ?yza12 ?rza12
            case yza12 => (intro w' hG; obtain ⟨q0, q1⟩ := qSza.out w' hG; clear hG; obtain ⟨z1, z2, z3⟩ := Z1.out; go_simp; try (with_reducible rfl))
            simp only [Act.put, List.setIfInBounds_toArray, List.set_cons_zero, List.set_cons_succ]
            refine kept_want ?vza13 (by rfl) ?yza13 ?rza13
            case yza13 => (intro w' hG; go_simp; refine (h2.out _).mono ?_; rintro e w'' ⟨rfl, U⟩; refine ⟨?_, hG.trans U⟩; with_reducible rfl)
            simp only [Act.put, List.setIfInBounds_toArray, List.set_cons_zero, List.set_cons_succ]
            refine kept_want ?vza14 (by rfl) ?yza14 ?rza14
            case yza14 => (intro w' hG; obtain ⟨q0, q1⟩ := qSza.out w' hG; clear hG; obtain ⟨z1, z2, z3⟩ := Z1.out; go_simp; try (with_reducible rfl))
            simp only [Act.put, List.setIfInBounds_toArray, List.set_cons_zero, List.set_cons_succ]
            refine kept_want ?vza15 (by rfl) ?yza15 ?rza15
            case yza15 => (intro w' hG; obtain ⟨q0, q1⟩ := qSza.out w' hG; clear hG; obtain ⟨z1, z2, z3⟩ := Z1.out; go_simp; try (with_reducible rfl))
            simp only [Act.put, List.setIfInBounds_toArray, List.set_cons_zero, List.set_cons_succ]
            refine kept_nil ?_
            intro V hV
            clear qSza
            go_wp2_with (fail)
            refine ⟨⟨0 + 1, hlt, by simp, congrArg Value.string hup.out, hcur.out, hW.trans hV⟩, ?_⟩
            first | exact meas_up hlt | exact zmeas0 hlt | exact zmeas1 hlt
          | succ p =>
            have hpv := hcs p (by rw [hNN.out]; omega)
            obtain ⟨M, hM0⟩ : ∃ M, (S.getD p ⟨0, 0⟩).key = M := ⟨_, rfl⟩
            have ep := (hpv.grew hG).1
            rw [hM0] at ep
            have HW : Hid (wrap64 ((p : Int) + 1 - 1) = p ∧ wrap64 (p : Int) = p) := (⟨by unfold wrap64; omega, by unfold wrap64; omega⟩ : wrap64 ((p : Int) + 1 - 1) = p ∧ wrap64 (p : Int) = p)
            have hp0 : (0 : Int) < (p : Int) + 1 := by omega
            have hpn : (p : Int) < n := by omega
            have hp00 : (0 : Int) ≤ p := by omega
            have hp01 : (0 : Int) ≤ (p : Int) + 1 := by omega
            by_cases hlt2 : M < K
            · have hle : ¬ K ≤ M := by omega
              have hcur : Hid (∀ j, j < p + 1 + 1 → slOk S j = true) := fun j hj => by
                by_cases e : j = p + 1
                · subst e
                  rw [slOk_succ, hK0, hQ0, hM0, hkb, hpb]
                  simp [hlt2]
                · exact hok j (by omega)
              clear hcs hok hpv
              go_upto_region 7 with (fail)
              go_quiet (first
                | (go_at_call 64; exact Calls.quiet_of_same (hK.out _))
                | (go_at_call 65; exact Calls.quiet_of_same (hP.out _))
                | fail)
              go_upto_region 9 with (fail)
              have hW : Grew w (wr.drewN nq) := hG.drewN _
              have d0 := (hb.grew hW).1
              have d1 := (hb.grew hW).2
              clear hG e0 e1 ep
              generalize wr.drewN nq = W at *
              have qSzb : Hid (∀ w', Grew W w' → (w'.cell? ⟨b, off + (p + 1) * 2, none⟩ = some (.int .i64 K) ∧ w'.cell? ⟨b, off + (p + 1) * 2 + 1, none⟩ = some (.int .i64 Q))) := fun w' g => ⟨g.cell d0, g.cell d1⟩
              refine kept_region W (by kernel_rfl) (by kernel_rfl) ?_
              refine kept_want ?vzb0 (by rfl) ?yzb0 ?rzb0
              case yzb0 => (intro w' hG; obtain ⟨q0, q1⟩ := qSzb.out w' hG; clear hG; obtain ⟨z1, z2, z3⟩ := Z1.out; go_simp; try (with_reducible rfl))
              simp only [Act.put, List.setIfInBounds_toArray, List.set_cons_zero, List.set_cons_succ]
              refine kept_want ?vzb1 (by rfl) ?yzb1 ?rzb1
              case yzb1 => (intro w' hG; obtain ⟨q0, q1⟩ := qSzb.out w' hG; clear hG; obtain ⟨z1, z2, z3⟩ := Z1.out; go_simp; try (with_reducible rfl))
              simp only [Act.put, List.setIfInBounds_toArray, List.set_cons_zero, List.set_cons_succ]
              refine kept_want ?vzb2 (by rfl) ?yzb2 ?rzb2
              case yzb2 => (intro w' hG; obtain ⟨q0, q1⟩ := qSzb.out w' hG; clear hG; obtain ⟨z1, z2, z3⟩ := Z1.out; go_simp; try (with_reducible rfl))
              simp only [Act.put, List.setIfInBounds_toArray, List.set_cons_zero, List.set_cons_succ]
              refine kept_want ?vzb3 (by rfl) ?yzb3 ?rzb3
              case yzb3 => (intro w' hG; obtain ⟨q0, q1⟩ := qSzb.out w' hG; clear hG; obtain ⟨z1, z2, z3⟩ := Z1.out; go_simp; try (with_reducible rfl))
              simp only [Act.put, List.setIfInBounds_toArray, List.set_cons_zero, List.set_cons_succ]
              refine kept_want ?vzb4 (by rfl) ?yzb4 ?rzb4
              case yzb4 => (intro w' hG; obtain ⟨q0, q1⟩ := qSzb.out w' hG; clear hG; obtain ⟨z1, z2, z3⟩ := Z1.out; go_simp; try (with_reducible rfl))
              simp only [Act.put, List.setIfInBounds_toArray, List.set_cons_zero, List.set_cons_succ]
              refine kept_want ?vzb5 (by rfl) ?yzb5 ?rzb5
              case yzb5 => (intro w' hG; obtain ⟨q0, q1⟩ := qSzb.out w' hG; clear hG; obtain ⟨z1, z2, z3⟩ := Z1.out; go_simp; try (with_reducible rfl))
              simp only [Act.put, List.setIfInBounds_toArray, List.set_cons_zero, List.set_cons_succ]
              refine kept_want ?vzb6 (by rfl) ?yzb6 ?rzb6
              case yzb6 => (intro w' hG; go_simp; refine (h4.out _).mono ?_; rintro e w'' ⟨rfl, U⟩; refine ⟨?_, hG.trans U⟩; with_reducible rfl)
              simp only [Act.put, List.setIfInBounds_toArray, List.set_cons_zero, List.set_cons_succ]
              refine kept_want ?vzb7 (by rfl) ?yzb7 ?rzb7
              case yzb7 => (intro w' hG; obtain ⟨q0, q1⟩ := qSzb.out w' hG; clear hG; obtain ⟨z1, z2, z3⟩ := Z1.out; go_simp; try (with_reducible rfl))
              simp only [Act.put, List.setIfInBounds_toArray, List.set_cons_zero, List.set_cons_succ]
              refine kept_want ?vzb8 (by rfl) ?yzb8 ?rzb8
              case yzb8 => (intro w' hG; obtain ⟨q0, q1⟩ := qSzb.out w' hG; clear hG; obtain ⟨z1, z2, z3⟩ := Z1.out; go_simp; try (with_reducible rfl))
              simp only [Act.put, List.setIfInBounds_toArray, List.set_cons_zero, List.set_cons_succ]
              refine kept_want ?vzb9 (by rfl) ?yzb9 ?rzb9
              case yzb9 => (intro w' hG; obtain ⟨q0, q1⟩ := qSzb.out w' hG; clear hG; obtain ⟨z1, z2, z3⟩ := Z1.out; go_simp; try (with_reducible rfl))
              simp only [Act.put, List.setIfInBounds_toArray, List.set_cons_zero, List.set_cons_succ]
              refine kept_want ?vzb10 (by rfl) ?yzb10 ?rzb10
              case yzb10 => (intro w' hG; obtain ⟨q0, q1⟩ := qSzb.out w' hG; clear hG; obtain ⟨z1, z2, z3⟩ := Z1.out; go_simp; try (with_reducible rfl))
              simp only [Act.put, List.setIfInBounds_toArray, List.set_cons_zero, List.set_cons_succ]
              refine kept_want ?vzb11 (by rfl) ?yzb11 ?rzb11
              case yzb11 => (intro w' hG; obtain ⟨q0, q1⟩ := qSzb.out w' hG; clear hG; obtain ⟨z1, z2, z3⟩ := Z1.out; go_simp; try (with_reducible rfl))
              simp only [Act.put, List.setIfInBounds_toArray, List.set_cons_zero, List.set_cons_succ]
              refine kept_want ?vzb12 (by rfl) ?yzb12 ?rzb12
              case yzb12 => (intro w' hG; obtain ⟨q0, q1⟩ := qSzb.out w' hG; clear hG; obtain ⟨z1, z2, z3⟩ := Z1.out; go_simp; try (with_reducible rfl))
              simp only [Act.put, List.setIfInBounds_toArray, List.set_cons_zero, List.set_cons_succ]
              refine kept_want ?vzb13 (by rfl) ?yzb13 ?rzb13
              case yzb13 => (intro w' hG; go_simp; refine (h2.out _).mono ?_; rintro e w'' ⟨rfl, U⟩; refine ⟨?_, hG.trans U⟩; with_reducible rfl)
              simp only [Act.put, List.setIfInBounds_toArray, List.set_cons_zero, List.set_cons_succ]
              refine kept_want ?vzb14 (by rfl) ?yzb14 ?rzb14
              case yzb14 => (intro w' hG; obtain ⟨q0, q1⟩ := qSzb.out w' hG; clear hG; obtain ⟨z1, z2, z3⟩ := Z1.out; go_simp; try (with_reducible rfl))
              simp only [Act.put, List.setIfInBounds_toArray, List.set_cons_zero, List.set_cons_succ]
              refine kept_want ?vzb15 (by rfl) ?yzb15 ?rzb15
              case yzb15 => (intro w' hG; obtain ⟨q0, q1⟩ := qSzb.out w' hG; clear hG; obtain ⟨z1, z2, z3⟩ := Z1.out; go_simp; try (with_reducible rfl))
              simp only [Act.put, List.setIfInBounds_toArray, List.set_cons_zero, List.set_cons_succ]
              refine kept_nil ?_
              intro V hV
              clear qSzb
              go_wp2_with (fail)
              refine ⟨⟨p + 1 + 1, hlt, by simp, congrArg Value.string hup.out, hcur.out, hW.trans hV⟩, ?_⟩
              first | exact meas_up hlt | exact zmeas0 hlt | exact zmeas1 hlt
            · have hle : K ≤ M := by omega
              have HF : Hid _ := hNone.out (p + 1) hlt (by rw [slOk_succ, hK0, hQ0, hM0, hkb, hpb]; simp [hlt2])
              clear hcs hok hpv hb
              go_upto_region 7 with (fail)
              go_quiet (first
                | (go_at_call 64; exact Calls.quiet_of_same (hK.out _))
                | (go_at_call 65; exact Calls.quiet_of_same (hP.out _))
                | fail)
              go_wp2_with (fail)
              go_ret2
              exact ⟨HF.out, hG.drewN _⟩
    · have hki : ¬ (k : Int) < n := by omega
      obtain rfl : k = n := by omega
      obtain ⟨v1, v2⟩ := hAll.out hok
      have hf := hfill
      replace v1 : Hid (idxV S = txt (padL (idxH S k))) := v1
      replace v2 : Hid (idxOk S = true) := v2
      clear hok hAll
      go_wp2_with (first | (go_at_call 66; go_fit (hf.out _); rintro e w1 ⟨rfl, G⟩) | fail)
      go_ret2
      exact ⟨by rw [v1.out, v2.out]; rfl, hG.trans G⟩
end Go.Proofs.YtbkkhafckkndfaaGreat

namespace Go.Proofs.YtbkkhafckkndfaaGreat
open Go Go.RowKit

def slV (s : Sl) : List Value := [.int .i64 s.key, .int .i64 s.page]
def slsV (S : List Sl) : List Value := S.flatMap slV
theorem pair_at (w : World) (A B : Value) (t : TypeId) (j : Nat) (u : Value) (hj : [A, B][j]? = some u) : (w.alloc (.cells #[A, B] t)).drew.cell? ⟨w.heap.size, 0 + j, none⟩ = some u := by
  show (w.alloc (.cells #[A, B] t)).cell? ⟨w.heap.size, 0 + j, none⟩ = some u
  rw [cell_of_row _ _ _ _ _ _ (heap_alloc_new _ _), Nat.zero_add]
  rw [← hj, List.getElem?_toArray]
theorem sls_more (S : List Sl) (s : Sl) : slsV (S ++ [s]) = slsV S ++ slV s := by simp [slsV]
theorem own_base2 {w : World} {B n k : Nat} {E : TypeId} {v : Value} {xs : List Value} (h : w.ownsRow B E k v n xs) : ∀ i, v.ownBlock = some i → B ≤ i := by
  intro i e
  rcases h.2 with ⟨q, _⟩ | ⟨g, c, cur, q, hb, _⟩
  · rw [q] at e; cases e
  · rw [q] at e
    obtain rfl : g = i := by simpa [Value.ownBlock] using e
    exact hb
/-- The k-th slot of a page. -/
def slAt (s : ByteArray) (k : Nat) : Sl := ⟨numR (s.extract (2 + 6 * k) (6 + 6 * k)), numR (s.extract (6 + 6 * k) (8 + 6 * k))⟩
def rawS (s : ByteArray) (n : Nat) : List Sl := (List.range n).map (slAt s)
theorem rawS_up (s : ByteArray) (n : Nat) : rawS s (n + 1) = rawS s n ++ [slAt s n] := by simp [rawS, List.range_succ]
theorem rawS_len (s : ByteArray) (n : Nat) : (rawS s n).length = n := by simp [rawS]
def cntS (s : ByteArray) : Nat := valL ((s.data.toList.drop 1).take 1)
def isIdx (s : ByteArray) : Bool := decide (s.size = 128) && (s.data.toList.take 1 == [73]) && decide (cntS s ≤ 21) && (idxOk (rawS s (cntS s)) && decide (txt (idxL (rawS s (cntS s))) = s))
def idxS (s : ByteArray) : List Sl := if isIdx s then rawS s (cntS s) else []
theorem slots_of {w : World} {B n : Nat} {E : TypeId} {v : Value} {S : List Sl} (h : w.ownsRow B E 2 v n (slsV S)) : ∃ a cap, v = .slice a n cap ∧ SlotsAt w a S := by
  rcases h.2 with ⟨rfl, h0⟩ | ⟨g, cap, cur, rfl, _⟩
  · refine ⟨none, 0, by rw [h0], .inl ?_⟩
    have := h.1
    rw [h0] at this
    cases S with
    | nil => rfl
    | cons s S => simp [slsV, slV] at this
  · refine ⟨_, cap, rfl, .inr ⟨g, 0, rfl, fun i hi => ?_⟩⟩
    have hl : ∀ S : List Sl, (slsV S).length = S.length * 2 := fun S => by
      induction S with
      | nil => rfl
      | cons s S ih => simp [slsV, slV] at ih ⊢; omega
    have hn : S.length = n := by have := h.1; rw [hl] at this; omega
    have e : S.getD i ⟨0, 0⟩ = S[i] := by simp [List.getD, hi]
    have at2 : ∀ (S : List Sl) (i : Nat) (hi : i < S.length), (slsV S)[i * 2]? = some (.int .i64 (S[i]).key) ∧ (slsV S)[i * 2 + 1]? = some (.int .i64 (S[i]).page) := by
      intro S
      induction S with
      | nil => intro i hi; simp at hi
      | cons s S ih =>
        intro i hi
        cases i with
        | zero => exact ⟨rfl, rfl⟩
        | succ i =>
          have := ih i (by simpa using hi)
          rw [show (i + 1) * 2 = i * 2 + 1 + 1 by omega]
          exact this
    obtain ⟨q1, q2⟩ := at2 S i hi
    rw [e]
    exact ⟨by rw [Nat.zero_add, h.cellAt _ (by omega)]; exact q1, by rw [Nat.zero_add, h.cellAt _ (by omega)]; exact q2⟩
theorem idx_cases (s : ByteArray) (h : s.size = 128) : ∃ c0 c1 : Nat, (∀ h, (s[0]'h).toNat = c0) ∧ (∀ h, (s[1]'h).toNat = c1) ∧ c0 < 256 ∧ c1 < 256 ∧ cntS s = c1 ∧ isIdx s = (decide (c0 = 73) && decide (c1 ≤ 21) && (idxOk (rawS s c1) && decide (txt (idxL (rawS s c1)) = s))) := by
  have h0 := (s[0]'(by omega)).toNat_lt
  have h1 := (s[1]'(by omega)).toNat_lt
  have e1 : cntS s = (s[1]'(by omega)).toNat := by rw [cntS, at_take (by omega), val_one]
  have e0 : s.data.toList.take 1 = [s[0]'(by omega)] := by have := at_take (s := s) (i := 0) (by omega); rwa [List.drop_zero] at this
  refine ⟨(s[0]'(by omega)).toNat, (s[1]'(by omega)).toNat, fun _ => rfl, fun _ => rfl, h0, h1, e1, ?_⟩
  have hd : decide (s.size = 128) = true := by simp [h]
  unfold isIdx
  rw [hd, e1, e0]
  have q1 : (([s[0]'(by omega)] : List UInt8) == [73]) = decide ((s[0]'(by omega)).toNat = 73) := by
    rw [Bool.eq_iff_iff]
    simp only [beq_iff_eq, List.cons.injEq, and_true, decide_eq_true_eq]
    constructor
    · intro e; rw [e]; rfl
    · intro e; exact UInt8.toNat_inj.1 e
  rw [q1]
  simp
theorem isIdx_len {s : ByteArray} (h : ¬ s.size = 128) : isIdx s = false := by
  unfold isIdx
  simp [h]
set_option maxRecDepth 100000 in
theorem info_slot : ∃ (i : TypeInfo) (z : Value), (Tryz.prog).info? 77 = some i ∧ i.zero = some z ∧ z.cells.size = 2 ∧ i.size = 2 ∧ i.bytes = 16 := ⟨_, _, rfl, rfl, rfl, rfl, rfl⟩
def SlotsBack (w : World) (s : ByteArray) (e : Ending) (w' : World) : Prop := ∃ v, e = .returned (.tuple #[v, .bool (isIdx s)]) ∧ w'.ownsRow w.heap.size 77 2 v (idxS s).length (slsV (idxS s)) ∧ Below w.heap.size w w'
theorem slots_none {w w' : World} {s : ByteArray} (h : isIdx s = false) (B : Below w.heap.size w w') : SlotsBack w s (.returned (.tuple #[.slice none 0 0, .bool false])) w' := by
  refine ⟨_, by rw [h], ?_, B⟩
  unfold idxS
  rw [h, if_neg (by decide)]
  exact World.ownsRow_nil _ _ _ _
set_option maxRecDepth 10000 in
set_option maxHeartbeats 4000000 in
theorem refslots_any (s : ByteArray) (w : World) : Calls Tryz.prog 22 #[.string s] w fun e w' => SlotsBack w s e w' := by
  by_cases h : s.size = 128
  · obtain ⟨c0, n, g0, g1, l0, l1, eC, eI⟩ := idx_cases s h
    have hi : (s.size : Int) = 128 := by omega
    by_cases n0 : c0 = 73
    · by_cases n1 : 21 < n
      · have e : isIdx s = false := by rw [eI]; simp; omega
        have hE : Hid (∀ w', Below w.heap.size w w' → SlotsBack w s (.returned (.tuple #[.slice none 0 0, .bool false])) w') := fun w' B => slots_none e B
        clear e eC eI h
        have n1' : (21 : Int) < n := by omega
        subst n0
        go_enter Tryz.func22, Tryz.ntmps22
        go_wp2
        go_ret2
        exact hE.out _ (Below.refl _ _)
      · have n1' : ¬ (21 : Int) < n := by omega
        have hn21 : n ≤ 21 := by omega
        obtain ⟨iw, zw, i1, i2, i3, i4, i5⟩ := info_slot
        have eI' : Hid (isIdx s = (idxOk (rawS s n) && decide (txt (idxL (rawS s n)) = s))) := (by rw [eI, n0]; simp; omega : isIdx s = (idxOk (rawS s n) && decide (txt (idxL (rawS s n)) = s)))
        have eC' : Hid (cntS s = n) := eC
        have h128 : Hid (s.size = 128) := h
        subst n0
        clear eC eI h
        go_enter Tryz.func22, Tryz.ntmps22
        go_wp2
        obtain ⟨b0, hb0⟩ : ∃ b0, w.heap.size = b0 := ⟨_, rfl⟩
        go_loopw [4, 5] (fun l i wr => ∃ (k : Nat) (a : Option Addr) (cp : Nat) (S : List Sl), k ≤ n ∧ i = .int .i64 k ∧ l = .slice a k cp ∧ S = rawS s k ∧ wr.ownsRow b0 77 2 (.slice a k cp) k (slsV S) ∧ Below b0 w wr) (fun _ i _ => n - (intOf i).toNat)
        case atStart => exact ⟨0, none, 0, [], by omega, rfl, rfl, rfl, World.ownsRow_nil _ _ _ _, Below.refl _ _⟩
        case round =>
          obtain ⟨k, a, cp, S, hk, rfl, rfl, hS, hr, hB⟩ := hrel
          have hBL : Hid (b0 ≤ wr.heap.size) := (by rw [← hb0]; exact hB.size : b0 ≤ wr.heap.size)
          by_cases hlt : k < n
          · have hki : (k : Int) < n := by omega
            obtain ⟨A, hA⟩ : ∃ A, numR (s.extract (2 + 6 * k) (6 + 6 * k)) = A := ⟨_, rfl⟩
            obtain ⟨B, hB0⟩ : ∃ B, numR (s.extract (6 + 6 * k) (8 + 6 * k)) = B := ⟨_, rfl⟩
            have hO1 : Hid (∀ W, Calls Tryz.prog 39 #[.string (s.extract (2 + 6 * k) (6 + 6 * k))] W fun e w' => e = .returned (.int .i64 A) ∧ w' = W) := fun W => by rw [← hA]; exact of_any _ W (by rw [ByteArray.size_extract]; omega)
            have hO2 : Hid (∀ W, Calls Tryz.prog 39 #[.string (s.extract (6 + 6 * k) (8 + 6 * k))] W fun e w' => e = .returned (.int .i64 B) ∧ w' = W) := fun W => by rw [← hB0]; exact of_any _ W (by rw [ByteArray.size_extract]; omega)
            have hup : Hid (S ++ [⟨A, B⟩] = rawS s (k + 1)) := by
              show _ = _
              rw [rawS_up, hS, ← hA, ← hB0]
              rfl
            replace hr : Hid (wr.ownsRow b0 77 2 (.slice a k cp) k (slsV S)) := hr
            replace hB : Hid (Below b0 w wr) := hB
            have HF : Hid (IntKind.i64.wrap (6 * (k : Int)) = 6 * k ∧ IntKind.i64.wrap (2 + 6 * (k : Int)) = ((2 + 6 * k : Nat) : Int) ∧ IntKind.i64.wrap (6 + 6 * (k : Int)) = ((6 + 6 * k : Nat) : Int) ∧ IntKind.i64.wrap (8 + 6 * (k : Int)) = ((8 + 6 * k : Nat) : Int) ∧ (0 : Int) ≤ 2 + 6 * (k : Int) ∧ (2 : Int) + 6 * (k : Int) ≤ 6 + 6 * k ∧ (6 : Int) + 6 * (k : Int) ≤ 128 ∧ (8 : Int) + 6 * (k : Int) ≤ 128 ∧ (0 : Int) ≤ 6 + 6 * (k : Int) ∧ (0 : Int) ≤ 8 + 6 * (k : Int) ∧ (6 : Int) + 6 * (k : Int) ≤ 8 + 6 * k ∧ (2 + 6 * (k : Int)).toNat = 2 + 6 * k ∧ (6 + 6 * (k : Int)).toNat = 6 + 6 * k ∧ (8 + 6 * (k : Int)).toNat = 8 + 6 * k) := (by simp only [IntKind.wrap_i64]; omega : IntKind.i64.wrap (6 * (k : Int)) = 6 * k ∧ IntKind.i64.wrap (2 + 6 * (k : Int)) = ((2 + 6 * k : Nat) : Int) ∧ IntKind.i64.wrap (6 + 6 * (k : Int)) = ((6 + 6 * k : Nat) : Int) ∧ IntKind.i64.wrap (8 + 6 * (k : Int)) = ((8 + 6 * k : Nat) : Int) ∧ (0 : Int) ≤ 2 + 6 * (k : Int) ∧ (2 : Int) + 6 * (k : Int) ≤ 6 + 6 * k ∧ (6 : Int) + 6 * (k : Int) ≤ 128 ∧ (8 : Int) + 6 * (k : Int) ≤ 128 ∧ (0 : Int) ≤ 6 + 6 * (k : Int) ∧ (0 : Int) ≤ 8 + 6 * (k : Int) ∧ (6 : Int) + 6 * (k : Int) ≤ 8 + 6 * k ∧ (2 + 6 * (k : Int)).toNat = 2 + 6 * k ∧ (6 + 6 * (k : Int)).toNat = 6 + 6 * k ∧ (8 + 6 * (k : Int)).toNat = 8 + 6 * k)
            clear hS hA hB0 n1' hn21 l1
            go_upto_region 7 with (fail)
            refine lat_region (A := (fun _ => True)) (S := (fun _ => True)) [] (by kernel_rfl) ?_ (fun hH0 => ?_)
            · exact ⟨trivial, trivial⟩
            refine lat_free (i := 0) (oi := { dst := some 29, op := Go.Op.move (Go.Operand.tmp 4), type := 73, pos := "disk.go:237", after := #[], guard := none }) (v := ?vsa1) rfl (by kernel_rfl) (by kernel_rfl) (by kernel_rfl) (by kernel_rfl) (fun _ _ _ h => h) (Or.inl ⟨by rfl, ?hysa1⟩) ⟨hH0.1, fun _ => hH0.2⟩ ?restsa1
            case hysa1 => (intro w hAw; obtain ⟨f1, f2, f3, f4, f5, f6, f7, f8, f9, f10, f11, f12, f13, f14⟩ := HF.out; go_simp; try (with_reducible rfl))
            simp only [Act.put, List.setIfInBounds_toArray, List.set_cons_zero, List.set_cons_succ]
            refine lat_free (i := 1) (oi := { dst := some 30, op := Go.Op.move (Go.Operand.tmp 0), type := 9, pos := "disk.go:237", after := #[], guard := none }) (v := ?vsa2) rfl (by kernel_rfl) (by kernel_rfl) (by kernel_rfl) (by kernel_rfl) (fun _ _ _ h => h) (Or.inl ⟨by rfl, ?hysa2⟩) ⟨hH0.1, fun _ => hH0.2⟩ ?restsa2
            case hysa2 => (intro w hAw; obtain ⟨f1, f2, f3, f4, f5, f6, f7, f8, f9, f10, f11, f12, f13, f14⟩ := HF.out; go_simp; try (with_reducible rfl))
            simp only [Act.put, List.setIfInBounds_toArray, List.set_cons_zero, List.set_cons_succ]
            refine lat_free (i := 2) (oi := { dst := some 31, op := Go.Op.move (Go.Operand.tmp 5), type := 3, pos := "disk.go:237", after := #[], guard := none }) (v := ?vsa3) rfl (by kernel_rfl) (by kernel_rfl) (by kernel_rfl) (by kernel_rfl) (fun _ _ _ h => h) (Or.inl ⟨by rfl, ?hysa3⟩) ⟨hH0.1, fun _ => hH0.2⟩ ?restsa3
            case hysa3 => (intro w hAw; obtain ⟨f1, f2, f3, f4, f5, f6, f7, f8, f9, f10, f11, f12, f13, f14⟩ := HF.out; go_simp; try (with_reducible rfl))
            simp only [Act.put, List.setIfInBounds_toArray, List.set_cons_zero, List.set_cons_succ]
            refine lat_free (i := 3) (oi := { dst := some 32, op := Go.Op.binOp Go.BinOp.mul 3 (Go.Operand.const (Go.Value.int Go.IntKind.i64 6)) (Go.Operand.tmp 31) 3, type := 3, pos := "disk.go:237", after := #[{ on := 2, ground := Go.Ground.data }], guard := none }) (v := ?vsa4) rfl (by kernel_rfl) (by kernel_rfl) (by kernel_rfl) (by kernel_rfl) (fun _ _ _ h => h) (Or.inl ⟨by rfl, ?hysa4⟩) ⟨hH0.1, fun _ => hH0.2⟩ ?restsa4
            case hysa4 => (intro w hAw; obtain ⟨f1, f2, f3, f4, f5, f6, f7, f8, f9, f10, f11, f12, f13, f14⟩ := HF.out; go_simp; try (with_reducible rfl))
            simp only [Act.put, List.setIfInBounds_toArray, List.set_cons_zero, List.set_cons_succ]
            refine lat_free (i := 4) (oi := { dst := some 33, op := Go.Op.binOp Go.BinOp.add 3 (Go.Operand.const (Go.Value.int Go.IntKind.i64 2)) (Go.Operand.tmp 32) 3, type := 3, pos := "disk.go:237", after := #[{ on := 3, ground := Go.Ground.data }], guard := none }) (v := ?vsa5) rfl (by kernel_rfl) (by kernel_rfl) (by kernel_rfl) (by kernel_rfl) (fun _ _ _ h => h) (Or.inl ⟨by rfl, ?hysa5⟩) ⟨hH0.1, fun _ => hH0.2⟩ ?restsa5
            case hysa5 => (intro w hAw; obtain ⟨f1, f2, f3, f4, f5, f6, f7, f8, f9, f10, f11, f12, f13, f14⟩ := HF.out; go_simp; try (with_reducible rfl))
            simp only [Act.put, List.setIfInBounds_toArray, List.set_cons_zero, List.set_cons_succ]
            refine lat_free (i := 5) (oi := { dst := some 34, op := Go.Op.move (Go.Operand.tmp 5), type := 3, pos := "disk.go:237", after := #[], guard := none }) (v := ?vsa6) rfl (by kernel_rfl) (by kernel_rfl) (by kernel_rfl) (by kernel_rfl) (fun _ _ _ h => h) (Or.inl ⟨by rfl, ?hysa6⟩) ⟨hH0.1, fun _ => hH0.2⟩ ?restsa6
            case hysa6 => (intro w hAw; obtain ⟨f1, f2, f3, f4, f5, f6, f7, f8, f9, f10, f11, f12, f13, f14⟩ := HF.out; go_simp; try (with_reducible rfl))
            simp only [Act.put, List.setIfInBounds_toArray, List.set_cons_zero, List.set_cons_succ]
            refine lat_free (i := 6) (oi := { dst := some 35, op := Go.Op.binOp Go.BinOp.mul 3 (Go.Operand.const (Go.Value.int Go.IntKind.i64 6)) (Go.Operand.tmp 34) 3, type := 3, pos := "disk.go:237", after := #[{ on := 5, ground := Go.Ground.data }], guard := none }) (v := ?vsa7) rfl (by kernel_rfl) (by kernel_rfl) (by kernel_rfl) (by kernel_rfl) (fun _ _ _ h => h) (Or.inl ⟨by rfl, ?hysa7⟩) ⟨hH0.1, fun _ => hH0.2⟩ ?restsa7
            case hysa7 => (intro w hAw; obtain ⟨f1, f2, f3, f4, f5, f6, f7, f8, f9, f10, f11, f12, f13, f14⟩ := HF.out; go_simp; try (with_reducible rfl))
            simp only [Act.put, List.setIfInBounds_toArray, List.set_cons_zero, List.set_cons_succ]
            refine lat_free (i := 7) (oi := { dst := some 36, op := Go.Op.binOp Go.BinOp.add 3 (Go.Operand.const (Go.Value.int Go.IntKind.i64 6)) (Go.Operand.tmp 35) 3, type := 3, pos := "disk.go:237", after := #[{ on := 6, ground := Go.Ground.data }], guard := none }) (v := ?vsa8) rfl (by kernel_rfl) (by kernel_rfl) (by kernel_rfl) (by kernel_rfl) (fun _ _ _ h => h) (Or.inl ⟨by rfl, ?hysa8⟩) ⟨hH0.1, fun _ => hH0.2⟩ ?restsa8
            case hysa8 => (intro w hAw; obtain ⟨f1, f2, f3, f4, f5, f6, f7, f8, f9, f10, f11, f12, f13, f14⟩ := HF.out; go_simp; try (with_reducible rfl))
            simp only [Act.put, List.setIfInBounds_toArray, List.set_cons_zero, List.set_cons_succ]
            refine lat_free (i := 8) (oi := { dst := some 37, op := Go.Op.slice 9 (Go.Operand.tmp 30) (some (Go.Operand.tmp 33)) (some (Go.Operand.tmp 36)) none, type := 9, pos := "disk.go:237", after := #[{ on := 1, ground := Go.Ground.data }, { on := 4, ground := Go.Ground.data }, { on := 7, ground := Go.Ground.data }], guard := none }) (v := ?vsa9) rfl (by kernel_rfl) (by kernel_rfl) (by kernel_rfl) (by kernel_rfl) (fun _ _ _ h => h) (Or.inl ⟨by rfl, ?hysa9⟩) ⟨hH0.1, fun _ => hH0.2⟩ ?restsa9
            case hysa9 => (intro w hAw; obtain ⟨f1, f2, f3, f4, f5, f6, f7, f8, f9, f10, f11, f12, f13, f14⟩ := HF.out; go_simp; try (with_reducible rfl))
            simp only [Act.put, List.setIfInBounds_toArray, List.set_cons_zero, List.set_cons_succ]
            refine lat_free (i := 10) (oi := { dst := some 39, op := Go.Op.move (Go.Operand.tmp 0), type := 9, pos := "disk.go:237", after := #[], guard := none }) (v := ?vsa10) rfl (by kernel_rfl) (by kernel_rfl) (by kernel_rfl) (by kernel_rfl) (fun _ _ _ h => h) (Or.inl ⟨by rfl, ?hysa10⟩) ⟨hH0.1, fun _ => hH0.2⟩ ?restsa10
            case hysa10 => (intro w hAw; obtain ⟨f1, f2, f3, f4, f5, f6, f7, f8, f9, f10, f11, f12, f13, f14⟩ := HF.out; go_simp; try (with_reducible rfl))
            simp only [Act.put, List.setIfInBounds_toArray, List.set_cons_zero, List.set_cons_succ]
            refine lat_free (i := 11) (oi := { dst := some 40, op := Go.Op.move (Go.Operand.tmp 5), type := 3, pos := "disk.go:237", after := #[], guard := none }) (v := ?vsa11) rfl (by kernel_rfl) (by kernel_rfl) (by kernel_rfl) (by kernel_rfl) (fun _ _ _ h => h) (Or.inl ⟨by rfl, ?hysa11⟩) ⟨hH0.1, fun _ => hH0.2⟩ ?restsa11
            case hysa11 => (intro w hAw; obtain ⟨f1, f2, f3, f4, f5, f6, f7, f8, f9, f10, f11, f12, f13, f14⟩ := HF.out; go_simp; try (with_reducible rfl))
            simp only [Act.put, List.setIfInBounds_toArray, List.set_cons_zero, List.set_cons_succ]
            refine lat_free (i := 12) (oi := { dst := some 41, op := Go.Op.binOp Go.BinOp.mul 3 (Go.Operand.const (Go.Value.int Go.IntKind.i64 6)) (Go.Operand.tmp 40) 3, type := 3, pos := "disk.go:237", after := #[{ on := 11, ground := Go.Ground.data }], guard := none }) (v := ?vsa12) rfl (by kernel_rfl) (by kernel_rfl) (by kernel_rfl) (by kernel_rfl) (fun _ _ _ h => h) (Or.inl ⟨by rfl, ?hysa12⟩) ⟨hH0.1, fun _ => hH0.2⟩ ?restsa12
            case hysa12 => (intro w hAw; obtain ⟨f1, f2, f3, f4, f5, f6, f7, f8, f9, f10, f11, f12, f13, f14⟩ := HF.out; go_simp; try (with_reducible rfl))
            simp only [Act.put, List.setIfInBounds_toArray, List.set_cons_zero, List.set_cons_succ]
            refine lat_free (i := 13) (oi := { dst := some 42, op := Go.Op.binOp Go.BinOp.add 3 (Go.Operand.const (Go.Value.int Go.IntKind.i64 6)) (Go.Operand.tmp 41) 3, type := 3, pos := "disk.go:237", after := #[{ on := 12, ground := Go.Ground.data }], guard := none }) (v := ?vsa13) rfl (by kernel_rfl) (by kernel_rfl) (by kernel_rfl) (by kernel_rfl) (fun _ _ _ h => h) (Or.inl ⟨by rfl, ?hysa13⟩) ⟨hH0.1, fun _ => hH0.2⟩ ?restsa13
            case hysa13 => (intro w hAw; obtain ⟨f1, f2, f3, f4, f5, f6, f7, f8, f9, f10, f11, f12, f13, f14⟩ := HF.out; go_simp; try (with_reducible rfl))
            simp only [Act.put, List.setIfInBounds_toArray, List.set_cons_zero, List.set_cons_succ]
            refine lat_free (i := 14) (oi := { dst := some 43, op := Go.Op.move (Go.Operand.tmp 5), type := 3, pos := "disk.go:237", after := #[], guard := none }) (v := ?vsa14) rfl (by kernel_rfl) (by kernel_rfl) (by kernel_rfl) (by kernel_rfl) (fun _ _ _ h => h) (Or.inl ⟨by rfl, ?hysa14⟩) ⟨hH0.1, fun _ => hH0.2⟩ ?restsa14
            case hysa14 => (intro w hAw; obtain ⟨f1, f2, f3, f4, f5, f6, f7, f8, f9, f10, f11, f12, f13, f14⟩ := HF.out; go_simp; try (with_reducible rfl))
            simp only [Act.put, List.setIfInBounds_toArray, List.set_cons_zero, List.set_cons_succ]
            refine lat_free (i := 15) (oi := { dst := some 44, op := Go.Op.binOp Go.BinOp.mul 3 (Go.Operand.const (Go.Value.int Go.IntKind.i64 6)) (Go.Operand.tmp 43) 3, type := 3, pos := "disk.go:237", after := #[{ on := 14, ground := Go.Ground.data }], guard := none }) (v := ?vsa15) rfl (by kernel_rfl) (by kernel_rfl) (by kernel_rfl) (by kernel_rfl) (fun _ _ _ h => h) (Or.inl ⟨by rfl, ?hysa15⟩) ⟨hH0.1, fun _ => hH0.2⟩ ?restsa15
            case hysa15 => (intro w hAw; obtain ⟨f1, f2, f3, f4, f5, f6, f7, f8, f9, f10, f11, f12, f13, f14⟩ := HF.out; go_simp; try (with_reducible rfl))
            simp only [Act.put, List.setIfInBounds_toArray, List.set_cons_zero, List.set_cons_succ]
            refine lat_free (i := 16) (oi := { dst := some 45, op := Go.Op.binOp Go.BinOp.add 3 (Go.Operand.const (Go.Value.int Go.IntKind.i64 8)) (Go.Operand.tmp 44) 3, type := 3, pos := "disk.go:237", after := #[{ on := 15, ground := Go.Ground.data }], guard := none }) (v := ?vsa16) rfl (by kernel_rfl) (by kernel_rfl) (by kernel_rfl) (by kernel_rfl) (fun _ _ _ h => h) (Or.inl ⟨by rfl, ?hysa16⟩) ⟨hH0.1, fun _ => hH0.2⟩ ?restsa16
            case hysa16 => (intro w hAw; obtain ⟨f1, f2, f3, f4, f5, f6, f7, f8, f9, f10, f11, f12, f13, f14⟩ := HF.out; go_simp; try (with_reducible rfl))
            simp only [Act.put, List.setIfInBounds_toArray, List.set_cons_zero, List.set_cons_succ]
            refine lat_free (i := 17) (oi := { dst := some 46, op := Go.Op.slice 9 (Go.Operand.tmp 39) (some (Go.Operand.tmp 42)) (some (Go.Operand.tmp 45)) none, type := 9, pos := "disk.go:237", after := #[{ on := 10, ground := Go.Ground.data }, { on := 13, ground := Go.Ground.data }, { on := 16, ground := Go.Ground.data }], guard := none }) (v := ?vsa17) rfl (by kernel_rfl) (by kernel_rfl) (by kernel_rfl) (by kernel_rfl) (fun _ _ _ h => h) (Or.inl ⟨by rfl, ?hysa17⟩) ⟨hH0.1, fun _ => hH0.2⟩ ?restsa17
            case hysa17 => (intro w hAw; obtain ⟨f1, f2, f3, f4, f5, f6, f7, f8, f9, f10, f11, f12, f13, f14⟩ := HF.out; go_simp; try (with_reducible rfl))
            simp only [Act.put, List.setIfInBounds_toArray, List.set_cons_zero, List.set_cons_succ]
            refine lat_one (i := 9) (by kernel_rfl) ?_
            refine lat_run (o := { dst := some 38, op := Go.Op.call { callee := Go.Callee.value (Go.Operand.func 39), args := #[Go.Operand.tmp 37], argTypes := #[9] }, type := 3, pos := "disk.go:237", after := #[{ on := 8, ground := Go.Ground.data }], guard := none }) rfl (fun K hK => ?_)
            go_simp
            go_wp2_with (first
              | (go_at_call 39; go_fit (hO1.out _); rintro e w' ⟨rfl, rfl⟩)
              | fail)
            refine hK.out _ _ (⟨trivial, trivial⟩) (fun hHsa18 => ?_)
            clear hK K
            refine lat_one (i := 18) (by kernel_rfl) ?_
            refine lat_run (o := { dst := some 47, op := Go.Op.call { callee := Go.Callee.value (Go.Operand.func 39), args := #[Go.Operand.tmp 46], argTypes := #[9] }, type := 3, pos := "disk.go:237", after := #[{ on := 17, ground := Go.Ground.data }, { on := 9, ground := Go.Ground.chain }], guard := none }) rfl (fun K hK => ?_)
            go_simp
            go_wp2_with (first
              | (go_at_call 39; go_fit (hO2.out _); rintro e w' ⟨rfl, rfl⟩)
              | fail)
            refine hK.out _ _ (⟨trivial, trivial⟩) (fun hHsa19 => ?_)
            clear hK K
            refine lat_free (i := 19) (oi := { dst := some 48, op := Go.Op.build 77 #[(0, Go.Operand.tmp 38), (1, Go.Operand.tmp 47)], type := 77, pos := "disk.go:237", after := #[{ on := 9, ground := Go.Ground.data }, { on := 18, ground := Go.Ground.data }], guard := none }) (v := ?vsa20) rfl (by kernel_rfl) (by kernel_rfl) (by kernel_rfl) (by kernel_rfl) (fun _ _ _ h => h) (Or.inl ⟨by rfl, ?hysa20⟩) ⟨hHsa19.1, fun _ => hHsa19.2⟩ ?restsa20
            case hysa20 => (intro w hAw; obtain ⟨f1, f2, f3, f4, f5, f6, f7, f8, f9, f10, f11, f12, f13, f14⟩ := HF.out; go_simp; try (with_reducible rfl))
            simp only [Act.put, List.setIfInBounds_toArray, List.set_cons_zero, List.set_cons_succ]
            refine lat_one (i := 20) (by kernel_rfl) ?_
            refine lat_run (o := { dst := some 49, op := Go.Op.buildSlice 73 1 #[(0, Go.Operand.tmp 48)], type := 73, pos := "disk.go:237", after := #[{ on := 19, ground := Go.Ground.data }], guard := none }) rfl (fun K hK => ?_)
            go_simp
            refine hK.out _ _ (⟨trivial, trivial⟩) (fun hHsa21 => ?_)
            clear hK K
            refine lat_one (i := 21) (by kernel_rfl) ?_
            refine lat_run (o := { dst := some 50, op := Go.Op.call { callee := Go.Callee.builtin Go.Builtin.append, args := #[Go.Operand.tmp 29, Go.Operand.tmp 49], argTypes := #[73, 73] }, type := 73, pos := "disk.go:237", after := #[{ on := 0, ground := Go.Ground.data }, { on := 20, ground := Go.Ground.data }, { on := 18, ground := Go.Ground.chain }], guard := none }) rfl (fun K hK => ?_)
            refine step_app _ (by rfl) (.tmp 29) (.tmp 49) 73 (by rfl) b0 77 iw zw 2 16 Tryz.underlying73 i1 i2 i4 i5 i3 (by decide) (.slice a k cp) k (slsV S) (by rfl) (row_grew hr.out ((Grew.refl wr).alloc _ _).drew) (some ⟨wr.heap.size, 0, none⟩) 1 1 [.int .i64 A, .int .i64 B] (by rfl) rfl (.inr ⟨_, 0, rfl, fun j u hj => pair_at wr _ _ _ j u hj⟩) (fun u hu => by simp at hu; rcases hu with rfl | rfl <;> rfl) (by unfold maxLen; omega) (by omega) (by have := hBL.out; simp; omega) ?_
            intro v4 w4 hv4 hg4 hk4 hl4
            obtain ⟨a4, c4, rfl, _⟩ := own_reads hv4
            have hB4 : Hid (Below b0 (wr.alloc (.cells #[.int .i64 A, .int .i64 B] 77)) w4) := ⟨hg4.os, hg4.tape, hg4.output, hg4.size, fun i hi => hg4.block i (by have := hBL.out; simp; omega) (fun e => by have := own_base2 hr.out i e.symm; omega)⟩
            replace hv4 := show Hid _ from hv4
            clear hg4 hk4 hl4
            simp only [Act.put, List.setIfInBounds_toArray, List.set_cons_zero, List.set_cons_succ]
            refine hK.out _ _ (⟨trivial, trivial⟩) (fun hHsa22 => ?_)
            clear hK K
            refine lat_free (i := 22) (oi := { dst := some 4, op := Go.Op.assign (Go.Operand.tmp 50), type := 73, pos := "disk.go:237", after := #[{ on := 21, ground := Go.Ground.data }, { on := 21, ground := Go.Ground.chain }, { on := 0, ground := Go.Ground.phase }, { on := 1, ground := Go.Ground.phase }, { on := 2, ground := Go.Ground.phase }, { on := 3, ground := Go.Ground.phase }, { on := 4, ground := Go.Ground.phase }, { on := 5, ground := Go.Ground.phase }, { on := 6, ground := Go.Ground.phase }, { on := 7, ground := Go.Ground.phase }, { on := 8, ground := Go.Ground.phase }, { on := 9, ground := Go.Ground.phase }, { on := 10, ground := Go.Ground.phase }, { on := 11, ground := Go.Ground.phase }, { on := 12, ground := Go.Ground.phase }, { on := 13, ground := Go.Ground.phase }, { on := 14, ground := Go.Ground.phase }, { on := 15, ground := Go.Ground.phase }, { on := 16, ground := Go.Ground.phase }, { on := 17, ground := Go.Ground.phase }, { on := 18, ground := Go.Ground.phase }, { on := 19, ground := Go.Ground.phase }, { on := 20, ground := Go.Ground.phase }, { on := 21, ground := Go.Ground.phase }], guard := none }) (v := ?vsa23) rfl (by kernel_rfl) (by kernel_rfl) (by kernel_rfl) (by kernel_rfl) (fun _ _ _ h => h) (Or.inl ⟨by rfl, ?hysa23⟩) ⟨hHsa22.1, fun _ => hHsa22.2⟩ ?restsa23
            case hysa23 => (intro w hAw; obtain ⟨f1, f2, f3, f4, f5, f6, f7, f8, f9, f10, f11, f12, f13, f14⟩ := HF.out; go_simp; try (with_reducible rfl))
            simp only [Act.put, List.setIfInBounds_toArray, List.set_cons_zero, List.set_cons_succ]
            refine lat_done (by kernel_rfl) ?_ _
            go_wp2_with (fail)
            refine ⟨⟨k + 1, a4, c4, S ++ [⟨A, B⟩], hlt, by simp, rfl, hup.out, ?_, ?_⟩, meas_up hlt⟩
            · rw [sls_more]; exact hv4.out
            · exact (hB.out.trans ((((Grew.refl wr).alloc _ _).below).mono hBL.out)).trans hB4.out
          · have hki : ¬ (k : Int) < n := by omega
            obtain rfl : k = n := by omega
            obtain ⟨a', cp', e9, hSl⟩ := slots_of hr
            obtain ⟨rfl, _, rfl⟩ : a = a' ∧ k = k ∧ cp = cp' := by simpa using e9
            have hlen : S.length = k := by rw [hS]; exact rawS_len s k
            have hX : Hid (Calls Tryz.prog 40 #[.slice a k cp] wr fun e w' => e = .returned (.tuple #[.string (idxV S), .bool (idxOk S)]) ∧ Grew wr w') := by
              show Calls _ _ _ _ _
              have := refindex_any S a cp wr hSl (by omega)
              rw [hlen] at this
              exact this
            replace hr : Hid (wr.ownsRow b0 77 2 (.slice a k cp) k (slsV S)) := hr
            replace hB : Hid (Below b0 w wr) := hB
            have eI2 : Hid (isIdx s = (idxOk S && decide (txt (idxL S) = s))) := by rw [hS]; exact eI'.out
            have hYes : Hid (isIdx s = true → idxS s = S) := fun h => by unfold idxS; rw [if_pos h, eC'.out, hS]
            have hNo : Hid (isIdx s = false → ∀ w', Below w.heap.size w w' → SlotsBack w s (.returned (.tuple #[.slice none 0 0, .bool false])) w') := fun h w' B => slots_none h B
            clear e9 hSl eI' eC' n1' hn21
            replace hS : Hid (S.length = k) := hlen
            clear hlen
            have hv : idxV S = if idxOk S then txt (idxL S) else ByteArray.empty := rfl
            rw [hv] at hX
            clear hv
            cases hko : idxOk S with
            | false =>
              rw [hko, if_neg (by decide)] at hX
              rw [hko] at eI2
              have hE := hNo.out (by rw [eI2.out]; rfl)
              replace hE : Hid _ := hE
              clear hko eI2 hYes hNo
              go_wp2_with (first | (go_at_call 40; go_fit hX.out; rintro e w1 ⟨rfl, G⟩) | fail)
              go_ret2
              exact hE.out _ (by rw [hb0]; exact hB.out.trans (G.below.mono hBL.out))
            | true =>
              rw [hko, if_pos rfl] at hX
              rw [hko] at eI2
              by_cases hq : txt (idxL S) = s
              · rw [hq] at hX
                have hE := hYes.out (by rw [eI2.out, hq]; simp)
                have hT : Hid (isIdx s = true) := (by rw [eI2.out, hq]; simp : isIdx s = true)
                replace hE : Hid (idxS s = S) := hE
                clear hko eI2 hYes hNo hq
                go_wp2_with (first | (go_at_call 40; go_fit hX.out; rintro e w1 ⟨rfl, G⟩) | fail)
                go_ret2
                refine ⟨_, by rw [hT.out]; rfl, ?_, by rw [hb0]; exact hB.out.trans (G.below.mono hBL.out)⟩
                rw [hE.out, hb0, hS.out]
                exact row_grew hr.out G
              · have hne := bytes_ne' hq
                have hE := hNo.out (by rw [eI2.out, decide_eq_false hq]; rfl)
                replace hE : Hid _ := hE
                clear hko eI2 hYes hNo hq
                generalize txt (idxL S) = X at *
                go_wp2_with (first | (go_at_call 40; go_fit hX.out; rintro e w1 ⟨rfl, G⟩) | fail)
                go_ret2
                exact hE.out _ (by rw [hb0]; exact hB.out.trans (G.below.mono hBL.out))
    · have e : isIdx s = false := by rw [eI]; simp [n0]
      have hE : Hid (∀ w', Below w.heap.size w w' → SlotsBack w s (.returned (.tuple #[.slice none 0 0, .bool false])) w') := fun w' B => slots_none e B
      clear e eC eI h
      have n0' : ¬ (c0 : Int) = 73 := by omega
      clear n0
      go_enter Tryz.func22, Tryz.ntmps22
      go_wp2
      go_ret2
      exact hE.out _ (Below.refl _ _)
  · have hi : ¬ (s.size : Int) = 128 := by omega
    have hE : Hid (∀ w', Below w.heap.size w w' → SlotsBack w s (.returned (.tuple #[.slice none 0 0, .bool false])) w') := fun w' B => slots_none (isIdx_len h) B
    clear h
    go_enter Tryz.func22, Tryz.ntmps22
    go_wp2
    go_ret2
    exact hE.out _ (Below.refl _ _)
end Go.Proofs.YtbkkhafckkndfaaGreat
