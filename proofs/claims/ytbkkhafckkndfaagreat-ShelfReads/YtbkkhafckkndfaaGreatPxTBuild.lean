/-
  A write built of a number and a page, a slice of one write, a copy of a text into a page, copies of rows: as laws. No call in sight.
-/
import Derived.Test.YtbkkhafckkndfaaGreatPk01
namespace Go.Proofs.YtbkkhafckkndfaaGreat
open Go Go.RowKit

set_option maxRecDepth 100000 in
theorem infoPage : ∃ (i : TypeInfo) (z : Array Value), (Tryz.prog).info? 62 = some i ∧ i.zero = some (.agg z) ∧ z.toList = List.replicate 128 (.int .u8 0) ∧ i.size = 128 ∧ i.bytes = 128 := ⟨_, _, rfl, rfl, rfl, rfl, rfl⟩
set_option maxRecDepth 100000 in
theorem infoWr : ∃ (i : TypeInfo) (z : Array Value), (Tryz.prog).info? 64 = some i ∧ i.zero = some (.agg z) ∧ z.toList = .int .i64 0 :: List.replicate 128 (.int .u8 0) ∧ i.size = 129 ∧ i.bytes = 136 := ⟨_, _, rfl, rfl, rfl, rfl, rfl⟩

/-- What 'fill' does with one part. -/
def layAt (xs : Array Value) (o : Nat) (vs : List Value) (k : Nat) : Array Value := (vs.zipIdx k).foldl (fun cs (c, j) => cs.setIfInBounds (o + j) c) xs
theorem layAt_list : ∀ (vs : List Value) (xs : Array Value) (o k : Nat), (layAt xs o vs k).toList = setL xs.toList (o + k) vs
  | [], _, _, _ => rfl
  | v :: vs, xs, o, k => by
    have := layAt_list vs (xs.setIfInBounds (o + k) v) o (k + 1)
    unfold layAt at this ⊢
    rw [List.zipIdx_cons, List.foldl_cons, this, Array.toList_setIfInBounds, setL, Nat.add_assoc]
theorem fold_zip (cs : Array Value) (xs : Array Value) (o : Nat) : cs.zipIdx.foldl (fun cs (c, j) => cs.setIfInBounds (o + j) c) xs = layAt xs o cs.toList 0 := by
  rw [← Array.foldl_toList]
  unfold layAt
  rw [Array.toList_zipIdx]
theorem layAt_all {xs : Array Value} {vs : List Value} (h : vs.length = xs.size) : layAt xs 0 vs 0 = vs.toArray := by
  apply Array.ext'
  rw [layAt_list, setL_head _ _ (by simp [h]), List.drop_of_length_le (by simp [h])]
  simp

set_option maxRecDepth 100000 in
theorem buildWr (k : Int) (x : ByteArray) (hx : x.size = 128) (w : World) : (Instr.build 64 #[(0, .int .i64 k), (1, .agg (pgV x).toArray)]).run Tryz.prog w = .ok (.agg (.int .i64 k :: pgV x).toArray) w := by
  obtain ⟨i, z, h1, h2, h3, h4, h5⟩ := infoWr
  obtain ⟨ip, zp, p1, p2, p3, p4, p5⟩ := infoPage
  have e8 : (Tryz.prog.info? 3).map (·.size) = some 1 := by kernel_rfl
  obtain ⟨i8, q1, q2⟩ : ∃ i8, Tryz.prog.info? 3 = some i8 ∧ i8.size = 1 := by
    cases h : Tryz.prog.info? 3 with
    | none => rw [h] at e8; cases e8
    | some i8 => exact ⟨i8, rfl, by rw [h] at e8; simpa using e8⟩
  have hz : z.size = 129 := by rw [← Array.length_toList, h3]; simp
  have hl : (pgV x).length = 128 := by rw [pgV_len, hx]
  simp [Instr.build, zeroValue, typeInfo, h1, h2, run_underlying Tryz.underlying64, sizeOf, q1, q2, p1, p4, Instr.fill, Value.cells, hz, hl, Sem.run_bind]
  have hne : ¬ z = #[] := fun e => by rw [e] at hz; simp at hz
  have e2 : List.foldl (fun cs x => cs.setIfInBounds (1 + x.snd) x.fst) (z.setIfInBounds 0 (Value.int IntKind.i64 k)) (pgV x).zipIdx = (.int .i64 k :: pgV x).toArray := by
    apply Array.ext'
    have := layAt_list (pgV x) (z.setIfInBounds 0 (Value.int IntKind.i64 k)) 1 0
    unfold layAt at this
    refine this.trans ?_
    rw [Array.toList_setIfInBounds, h3, List.set_cons_zero]
    have := setL_far [Value.int IntKind.i64 k] (pgV x) (List.replicate 128 (.int .u8 0)) 0
    refine this.trans ?_
    rw [setL_head _ _ (by rw [hl]; simp), hl, List.drop_of_length_le (by simp)]
    simp
  rw [if_neg hne, e2]
  rfl
set_option maxRecDepth 100000 in
theorem buildWrs (cs : List Value) (hc : cs.length = 129) (w : World) : (Instr.buildSlice 52 1 #[(0, .agg cs.toArray)]).run Tryz.prog w = .ok (.slice (some ⟨w.heap.size, 0, none⟩) 1 1) (w.alloc (.cells cs.toArray 64)) := by
  obtain ⟨i, z, h1, h2, h3, h4, h5⟩ := infoWr
  have hz : z.size = 129 := by rw [← Array.length_toList, h3]; simp
  simp [Instr.buildSlice, zeroValue, typeInfo, h1, h2, h4, run_underlying Tryz.underlying52, sizeOf, Instr.fill, Value.cells, hz, hc, Sem.run_bind, newRow]
  have hm : (Array.map (fun x => z[x % 129]!) (Array.range 129)).toList.length = 129 := by simp
  have := layAt_list cs (Array.map (fun x => z[x % 129]!) (Array.range 129)) 0 0
  unfold layAt at this
  simp only [Nat.zero_add] at this
  congr 2
  apply Array.ext'
  refine this.trans ?_
  rw [setL_head _ _ (by rw [hm, hc]; exact Nat.le_refl _), hc, List.drop_of_length_le (Nat.le_of_eq hm)]
  simp

/-! ### Copies -/
set_option maxRecDepth 100000 in
theorem run_copy_str (w : World) (dT sT ty elem : TypeId) (b o dLen dCap : Nat) (s : ByteArray)
    (hu : (Tryz.prog).underlying dT = some (.slice elem)) (hs : ((Tryz.prog).info? elem).map (·.size) = some 1) (hn : s.size = dLen) (ht : w.there b o dLen) :
    (Builtin.copy_ #[dT, sT] ty #[.slice (some ⟨b, o, none⟩) dLen dCap, .string s]).run Tryz.prog w = .ok (goInt s.size) (w.setCells b o (pgV s)) := by
  subst hn
  have hst := run_storeCells_cells (P := Tryz.prog) b o (pgV s) 0 w (by rw [pgV_len]; simpa using fun j hj => (ht j hj).1) (by rw [pgV_len]; simpa using fun j hj => (ht j hj).2) (pgV_one s)
  cases hq : (Tryz.prog).info? elem with
  | none => simp [hq] at hs
  | some i =>
    have he' : (Array.map (fun b => Value.int IntKind.u8 ↑b.toNat) s.data).toList = pgV s := by simp [pgV]
    simp only [Nat.add_zero] at hst
    have hmin : s.size.min s.size = s.size := Nat.min_self _
    have htk : List.take s.size (pgV s) = pgV s := List.take_of_length_le (by rw [pgV_len]; exact Nat.le_refl _)
    simp [Builtin.copy_, run_underlying hu, Builtin.lenOf, Builtin.firstCells, sizeOf, typeInfo, hq, hmin, -Array.toList_map, he', htk, hst]
set_option maxRecDepth 100000 in
theorem run_copy_wide (w : World) (dT sT ty elem : TypeId) (b o n dCap k : Nat) (a : Addr) (sCap : Nat) (cs : List Value)
    (hu : (Tryz.prog).underlying dT = some (.slice elem)) (hs : ((Tryz.prog).info? elem).map (·.size) = some k) (hn : cs.length = n * k)
    (hsrc : ∀ j v, cs[j]? = some v → w.cell? (a.add j) = some v) (ht : w.there b o (n * k)) (h1 : ∀ v ∈ cs, v.oneCell' = true) :
    (Builtin.copy_ #[dT, sT] ty #[.slice (some ⟨b, o, none⟩) n dCap, .slice (some a) n sCap]).run Tryz.prog w = .ok (goInt n) (w.setCells b o cs) := by
  have hl := run_loadCells_list (P := Tryz.prog) w a cs hsrc
  have hst := run_storeCells_cells (P := Tryz.prog) b o cs 0 w (by rw [hn]; simpa using fun j hj => (ht j hj).1) (by rw [hn]; simpa using fun j hj => (ht j hj).2) h1
  rw [hn] at hl
  simp only [Nat.add_zero] at hst
  have hmin : n.min n = n := Nat.min_self _
  cases hq : (Tryz.prog).info? elem with
  | none => simp [hq] at hs
  | some i =>
    have hi : i.size = k := by simpa [hq] using hs
    simp [Builtin.copy_, run_underlying hu, Builtin.lenOf, Builtin.firstCells, sizeOf, typeInfo, hq, hi, hmin, hl, hst]

section
variable {ops : Array Oper} {rest : List Oper} {o : Oper} {a : Act} {w : World} {Q : Exit → Act → World → Prop}
/-- A text into a page. -/
theorem wpList_copy_str (hgd : o.guard = none) (d s : Operand) (dT sT : TypeId) (ho : o.op = .call { callee := .builtin .copy, args := #[d, s], argTypes := #[dT, sT] }) (elem : TypeId)
    (hu : (Tryz.prog).underlying dT = some (.slice elem)) (hs : ((Tryz.prog).info? elem).map (·.size) = some 1)
    (b p dCap : Nat) (x : ByteArray) (hd : a.eval d = .slice (some ⟨b, p, none⟩) x.size dCap) (hx : a.eval s = .string x) (ht : w.there b p x.size)
    (h : wpList Tryz.prog ops Q rest (a.put o.dst (goInt x.size)) (w.setCells b p (pgV x))) : wpList Tryz.prog ops Q (o :: rest) a w := by
  refine wpList_plain hgd fun K hK => ?_
  have hrun := run_copy_str w dT sT o.type elem b p x.size dCap x hu hs rfl ht
  unfold Oper.wp
  simp [execOp, ho, resolve, invoke, builtin, hd, hx, hrun, Result.andThen]
  exact hK _ _ h
/-- A row into a row of as many, as one step of a region that draws its order. -/
theorem step_copy_wide {K : Act → World → Prop} {F : Prop} (hgd : o.guard = none) (d s : Operand) (dT sT : TypeId) (ho : o.op = .call { callee := .builtin .copy, args := #[d, s], argTypes := #[dT, sT] }) (elem : TypeId)
    (hu : (Tryz.prog).underlying dT = some (.slice elem)) (k : Nat) (hs : ((Tryz.prog).info? elem).map (·.size) = some k)
    (b p n dCap sCap : Nat) (ad : Addr) (cs : List Value) (hd : a.eval d = .slice (some ⟨b, p, none⟩) n dCap) (hx : a.eval s = .slice (some ad) n sCap) (hn : cs.length = n * k)
    (hsrc : ∀ j v, cs[j]? = some v → w.cell? (ad.add j) = some v) (ht : w.there b p (n * k)) (h1 : ∀ v ∈ cs, v.oneCell' = true)
    (h : K (a.put o.dst (goInt n)) (w.setCells b p cs)) : if Region.wanted o (yielded ops a.tmps) = true then Oper.wp Tryz.prog o a w K Q else F := by
  have hw : Region.wanted o (yielded ops a.tmps) = true := by simp [Region.wanted, hgd]
  rw [if_pos hw]
  have hrun := run_copy_wide w dT sT o.type elem b p n dCap k ad sCap cs hu hs hn hsrc ht h1
  unfold Oper.wp
  simp [execOp, ho, resolve, invoke, builtin, hd, hx, hrun, Result.andThen]
  exact h
/-- A write built of a number and a page: it yields in every world. -/
theorem yields_buildWr {S : World → Prop} (hw : Region.wanted o (yielded ops a.tmps) = true) (y z : Operand) (ho : o.op = .build 64 #[(0, y), (1, z)]) (k : Int) (x : ByteArray) (hy : a.eval y = .int .i64 k) (hz : a.eval z = .agg (pgV x).toArray) (hx : x.size = 128) :
    YieldsIf Tryz.prog ops S o (.agg (.int .i64 k :: pgV x).toArray) a :=
  .inl ⟨hw, fun w _ => by
    unfold execOp
    simp only [ho, List.map_toArray, List.map_cons, List.map_nil, hy, hz, Sem.run_bind, buildWr k x hx w, Result.andThen_ok, Sem.run_pure]⟩
/-- A slice of one write. -/
theorem step_buildWrs {K : Act → World → Prop} {F : Prop} (hgd : o.guard = none) (z : Operand) (ho : o.op = .buildSlice 52 1 #[(0, z)]) (cs : List Value) (hz : a.eval z = .agg cs.toArray) (hc : cs.length = 129)
    (h : K (a.put o.dst (.slice (some ⟨w.heap.size, 0, none⟩) 1 1)) (w.alloc (.cells cs.toArray 64))) : if Region.wanted o (yielded ops a.tmps) = true then Oper.wp Tryz.prog o a w K Q else F := by
  have hw : Region.wanted o (yielded ops a.tmps) = true := by simp [Region.wanted, hgd]
  rw [if_pos hw]
  unfold Oper.wp execOp
  simp only [ho, List.map_toArray, List.map_cons, List.map_nil, hz, Sem.run_bind, buildWrs cs hc w, Result.andThen_ok, Sem.run_pure]
  exact h
end
end Go.Proofs.YtbkkhafckkndfaaGreat
