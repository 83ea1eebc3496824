/-
  slices.Insert of one Write into a list of one's own.
-/
import Derived.Test.YtbkkhafckkndfaaGreatPk05
import Derived.Test.YtbkkhafckkndfaaGreatPxTBuild
import Derived.Shelf.RegionOpenPlain
import Derived.Lib.Walk
import Derived.Lib.SliceRun
import Derived.Lib.AppendZerosOnto
import Derived.Lib.Overlaps
import Derived.Laws.Externs
import Derived.Laws.CopyRow
import Derived.Laws.IdiomCopy
import Derived.Laws.NewBlocks
namespace Go.Proofs.YtbkkhafckkndfaaGreat
open Go Go.RowKit Go.Lib

/-! ### Copies into a row -/
theorem run_copy_row (w : World) (dT sT ty elem : TypeId) (g o nd dCap ns sCap n k : Nat) (a : Addr) (cur : Array Value) (t : TypeId) (cs : List Value)
    (hu : (Tryz.prog).underlying dT = some (.slice elem)) (hs : ((Tryz.prog).info? elem).map (·.size) = some k) (hmin : nd.min ns = n) (hn : cs.length = n * k)
    (hsrc : ∀ j v, cs[j]? = some v → w.cell? (a.add j) = some v) (hg : w.heap[g]? = some (.cells cur t (0, 0))) (hfit : o + n * k ≤ cur.size) (h1 : ∀ v ∈ cs, v.oneCell' = true) :
    (Builtin.copy_ #[dT, sT] ty #[.slice (some ⟨g, o, none⟩) nd dCap, .slice (some a) ns sCap]).run Tryz.prog w = .ok (goInt n) (w.setRow g (cur.toList.take o ++ cs ++ cur.toList.drop (o + n * k)).toArray) := by
  have hl := run_loadCells_list (P := Tryz.prog) w a cs hsrc
  have hst := run_storeCells_at Tryz.prog g o t cs 0 cur w hg (by rw [hn]; simpa using hfit) h1
  rw [hn] at hl hst
  simp only [Nat.add_zero] at hst
  cases hq : (Tryz.prog).info? elem with
  | none => simp [hq] at hs
  | some i =>
    have hi : i.size = k := by simpa [hq] using hs
    have hmin' : ns.min nd = n := by rw [← hmin]; exact Nat.min_comm ns nd
    simp [Builtin.copy_, run_underlying hu, Builtin.lenOf, Builtin.firstCells, sizeOf, typeInfo, hq, hi, hmin', hl, hst]
section
variable {ops : Array Oper} {rest : List Oper} {o : Oper} {a : Act} {w : World} {Q : Exit → Act → World → Prop}
theorem wpList_copy_of (hgd : o.guard = none) (d s : Operand) (dT sT : TypeId) (ho : o.op = .call { callee := .builtin .copy, args := #[d, s], argTypes := #[dT, sT] }) (v u : Value) (hd : a.eval d = v) (hs : a.eval s = u) {v' : Value} {w' : World}
    (hr : (Builtin.copy_ #[dT, sT] o.type #[v, u]).run Tryz.prog w = .ok v' w') (h : wpList Tryz.prog ops Q rest (a.put o.dst v') w') : wpList Tryz.prog ops Q (o :: rest) a w := by
  refine wpList_plain hgd fun K hK => ?_
  unfold Oper.wp
  simp [execOp, ho, resolve, invoke, builtin, hd, hs, hr, Result.andThen]
  exact hK _ _ h
theorem step_copy_of {K : Act → World → Prop} {F : Prop} (hgd : o.guard = none) (d s : Operand) (dT sT : TypeId) (ho : o.op = .call { callee := .builtin .copy, args := #[d, s], argTypes := #[dT, sT] }) (v u : Value) (hd : a.eval d = v) (hs : a.eval s = u) {v' : Value} {w' : World}
    (hr : (Builtin.copy_ #[dT, sT] o.type #[v, u]).run Tryz.prog w = .ok v' w') (h : K (a.put o.dst v') w') : if Region.wanted o (yielded ops a.tmps) = true then Oper.wp Tryz.prog o a w K Q else F := by
  have hw : Region.wanted o (yielded ops a.tmps) = true := by simp [Region.wanted, hgd]
  rw [if_pos hw]
  unfold Oper.wp
  simp [execOp, ho, resolve, invoke, builtin, hd, hs, hr, Result.andThen]
  exact h
end
set_option maxRecDepth 100000 in
theorem info_iwrite : ∃ (i : TypeInfo) (z : Value), (Tryz.prog).info? 49 = some i ∧ i.zero = some z ∧ z.cells.size = 2 ∧ i.size = 2 ∧ i.bytes = 24 := ⟨_, _, rfl, rfl, rfl, rfl, rfl⟩
theorem one_pr {V : List Pr} : ∀ u ∈ prsV V, u.oneCell' = true := fun u hu => by
  obtain ⟨x, _, hx⟩ := List.mem_flatMap.1 hu
  simp only [prV, List.mem_cons, List.not_mem_nil, or_false] at hx
  rcases hx with rfl | rfl <;> rfl
theorem prs_parts (V : List Pr) (i : Nat) : prsV V = prsV (V.take i) ++ prsV (V.drop i) := by
  unfold prsV
  rw [← List.flatMap_append, List.take_append_drop]
theorem prs_drop (V : List Pr) (i : Nat) : prsV (V.drop i) = (prsV V).drop (i * 2) := by
  by_cases h : i ≤ V.length
  · have e : (prsV (V.take i)).length = i * 2 := by rw [prs_len, List.length_take]; omega
    rw [prs_parts V i, ← e, List.drop_left]
  · rw [List.drop_eq_nil_of_le (by omega), List.drop_eq_nil_of_le (by rw [prs_len]; omega)]
    rfl
theorem prs_take (V : List Pr) (i : Nat) : prsV (V.take i) = (prsV V).take (i * 2) := by
  by_cases h : i ≤ V.length
  · have e : (prsV (V.take i)).length = i * 2 := by rw [prs_len, List.length_take]; omega
    rw [prs_parts V i, ← e, List.take_left]
  · rw [List.take_of_length_le (by omega), List.take_of_length_le (by rw [prs_len]; omega)]
theorem prs_ins (V : List Pr) (i : Nat) (x : Int) (t : ByteArray) : prsV (V.take i ++ ⟨x, t⟩ :: V.drop i) = (prsV V).take (i * 2) ++ ([.int .i64 x, .string t] ++ (prsV V).drop (i * 2)) := by
  rw [← prs_take, ← prs_drop]
  simp [prsV, prV]
theorem heap_setRow (w : World) (g : Nat) (cur cur2 : Array Value) (t : TypeId) (f : Nat × Nat) (h : w.heap[g]? = some (.cells cur t f)) : (w.setRow g cur2).heap[g]? = some (.cells cur2 t f) := by
  simp [World.setRow, Array.getElem?_modify, h]
set_option maxRecDepth 100000 in
set_option maxHeartbeats 2000000 in
/-- There is room: in place. -/
theorem ins_room (g n c i vb : Nat) (V : List Pr) (cur : Array Value) (x : Int) (t : ByteArray) (w : World) (hn : V.length = n) (hi : i < n) (hroom : n + 1 ≤ c) (hg : w.heap[g]? = some (.cells cur 49 (0, 0))) (hc : cur.size = c * 2) (hc63 : c ≤ 9223372036854775807)
    (hcur : cur.toList.take (n * 2) = prsV V) (hv : w.heap[vb]? = some (.cells #[.int .i64 x, .string t] 49 (0, 0))) (hvg : vb ≠ g) :
    Calls Tryz.prog 54 #[.slice (some ⟨g, 0, none⟩) n c, .int .i64 i, .slice (some ⟨vb, 0, none⟩) 1 1] w fun e w' => e = .returned (.slice (some ⟨g, 0, none⟩) (n + 1) c) ∧
      ∃ cur2, w' = w.drew.setRow g cur2 ∧ cur2.size = c * 2 ∧ cur2.toList.take ((n + 1) * 2) = prsV (V.take i ++ ⟨x, t⟩ :: V.drop i) := by
  have hz2 : ¬ ((i : Int) = (n : Int)) := by omega
  have hin : i ≤ n := by omega
  obtain ⟨iW, zW, hI1, hI2, hI3, hI4, hI5⟩ := info_iwrite
  have hsz : ((Tryz.prog).info? 49).map (·.size) = some 2 := by rw [hI1]; simp [hI4]
  have hl : (prsV V).length = n * 2 := by rw [prs_len, hn]
  have hds : (prsV (V.drop i)).length = (n - i) * 2 := by rw [prs_len, List.length_drop, hn]
  have hget : ∀ j u, (prsV V)[j]? = some u → cur[j]? = some u := fun j u h => by
    rw [← hcur, List.getElem?_take] at h
    split at h
    · simpa using h
    · cases h
  have hcell : ∀ (W : World) (cu : Array Value) (b : Nat) (ty : TypeId) (j : Nat), W.heap[b]? = some (.cells cu ty (0, 0)) → W.cell? ⟨b, j, none⟩ = cu[j]? := fun W cu b ty j h => by simp [World.cell?, h]
  have h1 : ∀ u ∈ prsV V, u.oneCell' = true := one_pr
  have hov : (callFunc 80 #[.slice (some ⟨vb, 0, none⟩) 1 1, .slice (some ⟨g, (i + 1) * 2, none⟩) (n - i) (c - (i + 1))]).run Tryz.prog w = .ok (.value (.bool false)) w := by
    rw [run_callFunc_extern Tryz.func80 (by kernel_rfl) (by kernel_rfl) (by kernel_rfl) (e := Extern.SlicesOverlaps.overlaps #[32, 32] #[4]) (by kernel_rfl),
      Lib.run_overlaps_apart w 32 4 49 Tryz.underlying32 2 (fun w => by kernel_rfl) ⟨vb, 0, none⟩ ⟨g, (i + 1) * 2, none⟩ 1 1 (n - i) (c - (i + 1)) hvg 49 49 2 (c * 2) (by simp [World.shape?, hv]) (by simp [World.shape?, hg, hc]) (by omega) (by simp [World.frozen?, hv]) (by simp [World.frozen?, hv])]
    rfl
  have hcp1 : ∀ ty dc sc, (Builtin.copy_ #[32, 32] ty #[.slice (some ⟨g, (i + 1) * 2, none⟩) (n - i) dc, .slice (some ⟨g, i * 2, none⟩) (n + 1 - i) sc]).run Tryz.prog w.drew = .ok (goInt ((n - i : Nat) : Int)) (w.drew.setRow g (cur.toList.take ((i + 1) * 2) ++ prsV (V.drop i) ++ cur.toList.drop ((i + 1) * 2 + (n - i) * 2)).toArray) := fun ty dc sc =>
    run_copy_row w.drew _ _ ty 49 g ((i + 1) * 2) (n - i) dc (n + 1 - i) sc (n - i) 2 ⟨g, i * 2, none⟩ cur 49 (prsV (V.drop i)) Tryz.underlying32 hsz (Nat.min_eq_left (by omega)) hds
      (fun j u hj => by
        rw [Addr.add_lit, hcell w.drew cur g _ _ hg]
        rw [prs_drop, List.getElem?_drop] at hj
        exact hget _ _ hj) hg (by rw [hc]; omega) (fun u hu => one_pr u hu)
  obtain ⟨c1, hc1⟩ : ∃ c1, c1 = (cur.toList.take ((i + 1) * 2) ++ prsV (V.drop i) ++ cur.toList.drop ((i + 1) * 2 + (n - i) * 2)).toArray := ⟨_, rfl⟩
  rw [← hc1] at hcp1
  have hs1 : c1.size = c * 2 := by
    rw [hc1]
    simp only [List.size_toArray, List.length_append, List.length_take, List.length_drop, hds, Array.length_toList, hc]
    omega
  have hg1 : (w.drew.setRow g c1).heap[g]? = some (.cells c1 49 (0, 0)) := heap_setRow w.drew g cur c1 _ _ hg
  have hcp2 : ∀ ty dc, (Builtin.copy_ #[32, 32] ty #[.slice (some ⟨g, i * 2, none⟩) (n + 1 - i) dc, .slice (some ⟨vb, 0, none⟩) 1 1]).run Tryz.prog (w.drew.setRow g c1) = .ok (goInt ((1 : Nat) : Int)) ((w.drew.setRow g c1).setRow g (c1.toList.take (i * 2) ++ [Value.int .i64 x, Value.string t] ++ c1.toList.drop (i * 2 + 1 * 2)).toArray) := fun ty dc =>
    run_copy_row (w.drew.setRow g c1) _ _ ty 49 g (i * 2) (n + 1 - i) dc 1 1 1 2 ⟨vb, 0, none⟩ c1 49 [Value.int .i64 x, Value.string t] Tryz.underlying32 hsz (Nat.min_eq_right (by omega)) rfl
      (fun j u hj => by
        rw [Addr.add_lit, Nat.zero_add, hcell (w.drew.setRow g c1) #[.int .i64 x, .string t] vb 49 _ (by
          have : (w.drew.setRow g c1).heap[vb]? = w.heap[vb]? := by
            show (w.heap.modify g _)[vb]? = w.heap[vb]?
            rw [Array.getElem?_modify, if_neg (Ne.symm hvg)]
          rw [this]; exact hv)]
        simpa using hj) hg1 (by rw [hs1]; omega) (by simp [Value.oneCell'])
  obtain ⟨c2, hc2⟩ : ∃ c2, c2 = (c1.toList.take (i * 2) ++ [Value.int .i64 x, Value.string t] ++ c1.toList.drop (i * 2 + 1 * 2)).toArray := ⟨_, rfl⟩
  rw [← hc2] at hcp2
  have hEnd : Hid (c2.size = c * 2 ∧ c2.toList.take ((n + 1) * 2) = prsV (V.take i ++ ⟨x, t⟩ :: V.drop i)) := by
    refine ⟨?_, ?_⟩
    · rw [hc2]
      simp only [List.size_toArray, List.length_append, List.length_take, List.length_drop, Array.length_toList, hs1, List.length_cons, List.length_nil]
      omega
    · have hcl : (cur.toList.take ((i + 1) * 2)).length = i * 2 + 1 * 2 := by rw [List.length_take, Array.length_toList, hc]; omega
      have k1 : c1.toList.take (i * 2) = (prsV V).take (i * 2) := by
        rw [hc1, List.append_assoc]
        show List.take (i * 2) (cur.toList.take ((i + 1) * 2) ++ _) = _
        rw [List.take_append_of_le_length (by omega), List.take_take, ← hcur, List.take_take]
        congr 1
        omega
      have k2 : c1.toList.drop (i * 2 + 1 * 2) = prsV (V.drop i) ++ cur.toList.drop ((i + 1) * 2 + (n - i) * 2) := by
        rw [hc1, List.append_assoc]
        show List.drop _ (cur.toList.take ((i + 1) * 2) ++ _) = _
        rw [← hcl, List.drop_left]
      rw [prs_ins, ← prs_drop, hc2, k1, k2]
      show List.take _ _ = _
      have e3 : ((prsV V).take (i * 2) ++ [Value.int .i64 x, Value.string t] ++ prsV (V.drop i)).length = (n + 1) * 2 := by
        simp only [List.length_append, List.length_take, hl, hds, List.length_cons, List.length_nil]
        omega
      rw [← List.append_assoc, ← e3, List.take_left, List.append_assoc]
  have hSet : Hid ((w.drew.setRow g c1).setRow g c2 = w.drew.setRow g c2) := by
    show _ = _
    exact setRow_setRow _ _ _ _
  clear hget hcell hsz hcur hc1 hc2 hI1 hI2 hI3 hI4 hI5
  have mixed : (Tryz.prog).follows .mixedOrders = true := by kernel_rfl
  have hw1 : IntKind.i64.wrap ((i : Int) + 1) = (i : Int) + 1 := by rw [IntKind.wrap_i64]; omega
  have hb1 : (0 : Int) ≤ (i : Int) + 1 := by omega
  have htn : ((i : Int) + 1).toNat = i + 1 := by omega
  have hb3 : (i : Int) ≤ (n : Int) := by omega
  have hroom2 : ¬ ((c : Int) < (n : Int) + 1) := by omega
  have hb5 : (i : Int) ≤ (n : Int) + 1 := by omega
  have hb6 : (i : Int) + 1 ≤ (n : Int) + 1 := by omega
  have hci : ¬ (c = i) := by omega
  have hcim : ¬ (c = i + 1) := by omega
  go_enter Tryz.func54, Tryz.ntmps54
  go_wp2_with (simp only [hov])
  go_region_law_o (refine step_copy_of rfl _ _ 32 32 rfl (.slice (some ⟨g, (i + 1) * 2, none⟩) (n - i) (c - (i + 1))) (.slice (some ⟨g, i * 2, none⟩) (n + 1 - i) (c - i)) (by simp [Act.eval, Act.put]) (by simp [Act.eval, Act.put]) (hcp1 _ _ _) ?_)
  go_wp2_with (refine wpList_copy_of rfl (.tmp 80) (.tmp 81) 32 32 rfl _ _ rfl rfl (hcp2 _ _) ?_)
  go_ret
  exact ⟨rfl, c2, hSet.out, hEnd.out.1, hEnd.out.2⟩
set_option maxRecDepth 100000 in
set_option maxHeartbeats 2000000 in
/-- At the end. -/
theorem ins_end (B n c vb : Nat) (V : List Pr) (a : Option Addr) (x : Int) (t : ByteArray) (w : World) (hn : V.length = n) (h : w.ownsRow B 49 2 (.slice a n c) n (prsV V)) (hB : B ≤ w.heap.size) (hm : n ≤ 1000000)
    (hv : w.heap[vb]? = some (.cells #[.int .i64 x, .string t] 49 (0, 0))) :
    Calls Tryz.prog 54 #[.slice a n c, .int .i64 n, .slice (some ⟨vb, 0, none⟩) 1 1] w fun e w' => ∃ v, e = .returned v ∧ w'.ownsRow B 49 2 v (n + 1) (prsV (V ++ [⟨x, t⟩])) ∧ w.grownBy w' (Value.slice a n c).ownBlock := by
  obtain ⟨iW, zW, hI1, hI2, hI3, hI4, hI5⟩ := info_iwrite
  go_enter Tryz.func54, Tryz.ntmps54
  go_wp2_with (first
    | (at_builtin; refine wpList_app _ rfl (.tmp 23) (.tmp 24) 32 rfl B 49 iW zW 2 24 Tryz.underlying32 hI1 hI2 hI4 hI5 hI3 (by decide) (.slice a n c) n _ rfl h (some ⟨vb, 0, none⟩) 1 1 [.int .i64 x, .string t] rfl rfl (.inr ⟨vb, 0, rfl, fun j u hj => by rw [Nat.zero_add, cell_of_row w vb j _ _ _ hv]; simpa using hj⟩) (fun u hu => by simp at hu; rcases hu with rfl | rfl <;> rfl) (by unfold maxLen; omega) (by omega) hB ?_; intro v5 w5 hv5 hg5 hk5 hl5; obtain ⟨a5, c5, rfl, _⟩ := own_reads hv5)
    | fail)
  all_goals (go_ret; exact ⟨_, rfl, by rw [prs_more]; exact hv5, by first | exact hg5 | (subst_vars; exact hg5)⟩)
theorem alloc_by (w : World) (o : Obj) (G : Nat) (hG : G = w.heap.size) (c : Array Value) (row : Option Nat) : w.grownBy ((w.drew.alloc o).setRow G c) row := by
  refine ⟨rfl, rfl, rfl, ?_, fun k hk _ => ?_⟩
  · show w.heap.size ≤ ((w.drew.alloc o).heap.modify G _).size
    rw [Array.size_modify]
    have : (w.drew.alloc o).heap.size = w.heap.size + 1 := by simp
    omega
  · have hne : ¬ G = k := by omega
    have e := Lib.alloc_old w.drew o k hk
    have e2 : ((w.drew.alloc o).setRow G c).heap[k]? = (w.drew.alloc o).heap[k]? := by simp [World.setRow, Array.getElem?_modify, hne]
    exact e2.trans e
set_option maxRecDepth 100000 in
set_option maxHeartbeats 4000000 in
/-- There is no room: in a new place. -/
theorem ins_grow (g n i vb : Nat) (V : List Pr) (cur : Array Value) (x : Int) (t : ByteArray) (w : World) (hn : V.length = n) (hi : i < n) (hg : w.heap[g]? = some (.cells cur 49 (0, 0))) (hm : n ≤ 1000000)
    (hcur : cur.toList.take (n * 2) = prsV V) (hv : w.heap[vb]? = some (.cells #[.int .i64 x, .string t] 49 (0, 0))) :
    Calls Tryz.prog 54 #[.slice (some ⟨g, 0, none⟩) n n, .int .i64 i, .slice (some ⟨vb, 0, none⟩) 1 1] w fun e w' => ∃ G cap c2, e = .returned (.slice (some ⟨G, 0, none⟩) (n + 1) cap) ∧ G = w.heap.size ∧
      w'.heap[G]? = some (.cells c2 49 (0, 0)) ∧ n + 1 ≤ cap ∧ cap ≤ maxLen ∧ c2.size = cap * 2 ∧ c2.toList.take ((n + 1) * 2) = prsV (V.take i ++ ⟨x, t⟩ :: V.drop i) ∧ w.grownBy w' none := by
  have hz2 : ¬ ((i : Int) = (n : Int)) := by omega
  have hin : i ≤ n := by omega
  obtain ⟨iW, zW, hI1, hI2, hI3, hI4, hI5⟩ := info_iwrite
  have hsz : ((Tryz.prog).info? 49).map (·.size) = some 2 := by rw [hI1]; simp [hI4]
  have hl : (prsV V).length = n * 2 := by rw [prs_len, hn]
  have hds : (prsV (V.drop i)).length = (n - i) * 2 := by rw [prs_len, List.length_drop, hn]
  have hget : ∀ j u, (prsV V)[j]? = some u → cur[j]? = some u := fun j u h => by
    rw [← hcur, List.getElem?_take] at h
    split at h
    · simpa using h
    · cases h
  have hgw : g < w.heap.size := (Array.getElem?_eq_some_iff.1 hg).1
  have hvw : vb < w.heap.size := (Array.getElem?_eq_some_iff.1 hv).1
  have hcell : ∀ (W : World) (cu : Array Value) (b : Nat) (ty : TypeId) (j : Nat), W.heap[b]? = some (.cells cu ty (0, 0)) → W.cell? ⟨b, j, none⟩ = cu[j]? := fun W cu b ty j h => by simp [World.cell?, h]
  have hik : i + (n + 1 - i) = n + 1 := by omega
  have hkk : (n : Int) + 1 - (i : Int) = ((n + 1 - i : Nat) : Int) := by omega
  have hold : (Builtin.firstCells iW.size i (.slice (some ⟨g, 0, none⟩) i n)).run Tryz.prog w.drew = .ok (prsV (V.take i)).toArray w.drew := by
    rw [hI4]
    exact run_firstCells_some w.drew 2 i ⟨g, 0, none⟩ i n (prsV (V.take i)) (by rw [prs_len, List.length_take]; omega) (fun j u hj => by
      rw [Addr.add_lit, Nat.zero_add, hcell w.drew cur g _ _ hg]
      rw [prs_take, List.getElem?_take] at hj
      split at hj
      · exact hget j u hj
      · cases hj)
  have hrz : ∀ ty, (Builtin.append_ #[32, 3] ty #[.slice (some ⟨g, 0, none⟩) i n, .int .i64 ((n : Int) + 1 - (i : Int))]).run Tryz.prog w =
      .ok (.slice (some ⟨w.heap.size, 0, none⟩) (n + 1) (grownCap w (n + 1) n 49)) (w.drew.alloc (.cells ((prsV (V.take i)).toArray ++ Builtin.zeroCells zW.cells (n + 1 - i) ++ Builtin.zeroCells zW.cells (grownCap w (n + 1) n 49 - (n + 1))) 49)) := fun ty => by
    have h := Lib.run_append_grow_zeros w 32 3 ty 49 iW zW .i64 .i64 Tryz.underlying32 Tryz.underlying3 hI1 hI2 (some ⟨g, 0, none⟩) i n (prsV (V.take i)) hold (n + 1 - i) (by omega) (by omega) (by omega) (by omega) (by rw [hI5]; omega) (by rw [hI5, hik]; exact growslice_fits (by omega) (by omega))
    rw [hik] at h
    rw [hkk]
    exact h
  have hGn := grownCap_ge w (n + 1) n 49
  have hGm : grownCap w (n + 1) n 49 ≤ maxLen := grownCap_le_maxLen w (n + 1) n _ (by unfold maxLen; omega)
  generalize grownCap w (n + 1) n 49 = G at hrz hGn hGm
  obtain ⟨ROW, hROW⟩ : ∃ ROW : Array Value, ROW = (prsV (V.take i)).toArray ++ Builtin.zeroCells zW.cells (n + 1 - i) ++ Builtin.zeroCells zW.cells (G - (n + 1)) := ⟨_, rfl⟩
  rw [← hROW] at hrz
  have htl : (prsV (V.take i)).length = i * 2 := by rw [prs_len, List.length_take]; omega
  have hRs : ROW.size = G * 2 := by
    rw [hROW]
    simp only [Array.size_append, size_zeroCells, List.size_toArray, htl, hI3]
    omega
  have hRt : ROW.toList.take (i * 2) = prsV (V.take i) := by
    rw [hROW, Array.append_assoc, Array.toList_append, ← htl, List.take_left]
  have hW1 : (w.drew.alloc (.cells ROW 49)).heap[w.heap.size]? = some (.cells ROW 49 (0, 0)) := heap_alloc_new _ _
  have hOld : ∀ b, b < w.heap.size → (w.drew.alloc (.cells ROW 49)).heap[b]? = w.heap[b]? := fun b hb => Lib.alloc_old w.drew _ b hb
  obtain ⟨c1, hc1⟩ : ∃ c1, c1 = (ROW.toList.take (i * 2) ++ [Value.int .i64 x, Value.string t] ++ ROW.toList.drop (i * 2 + 1 * 2)).toArray := ⟨_, rfl⟩
  have hcpA : ∀ (W : World), W.heap = (w.drew.alloc (.cells ROW 49)).heap → ∀ ty dc, (Builtin.copy_ #[32, 32] ty #[.slice (some ⟨w.heap.size, i * 2, none⟩) (n + 1 - i) dc, .slice (some ⟨vb, 0, none⟩) 1 1]).run Tryz.prog W = .ok (goInt 1) (W.setRow w.heap.size c1) := fun W hW ty dc => by
    rw [hc1]
    exact run_copy_row W _ _ ty 49 w.heap.size (i * 2) (n + 1 - i) dc 1 1 1 2 ⟨vb, 0, none⟩ ROW 49 [.int .i64 x, .string t] Tryz.underlying32 hsz (Nat.min_eq_right (by omega)) rfl
      (fun j u hj => by
        rw [Addr.add_lit, Nat.zero_add, hcell W #[.int .i64 x, .string t] vb 49 _ (by rw [hW, hOld vb hvw]; exact hv)]
        simpa using hj) (by rw [hW]; exact hW1) (by rw [hRs]; omega) (by simp [Value.oneCell'])
  have hs1 : c1.size = G * 2 := by
    rw [hc1]
    simp only [List.size_toArray, List.length_append, List.length_take, List.length_drop, Array.length_toList, hRs, List.length_cons, List.length_nil]
    omega
  obtain ⟨c2, hc2⟩ : ∃ c2, c2 = (c1.toList.take ((i + 1) * 2) ++ prsV (V.drop i) ++ c1.toList.drop ((i + 1) * 2 + (n - i) * 2)).toArray := ⟨_, rfl⟩
  have hcpB : ∀ (W : World), W.heap = ((w.drew.alloc (.cells ROW 49)).setRow w.heap.size c1).heap → ∀ ty dc sc, (Builtin.copy_ #[32, 32] ty #[.slice (some ⟨w.heap.size, (i + 1) * 2, none⟩) (n - i) dc, .slice (some ⟨g, i * 2, none⟩) (n - i) sc]).run Tryz.prog W = .ok (goInt ((n - i : Nat) : Int)) (W.setRow w.heap.size c2) := fun W hW ty dc sc => by
    rw [hc2]
    have hgg : W.heap[g]? = some (.cells cur 49 (0, 0)) := by
      rw [hW]
      have : ((w.drew.alloc (.cells ROW 49)).setRow w.heap.size c1).heap[g]? = (w.drew.alloc (.cells ROW 49)).heap[g]? := by simp [World.setRow, Array.getElem?_modify, show ¬ w.heap.size = g by omega]
      rw [this, hOld g hgw]
      exact hg
    exact run_copy_row W _ _ ty 49 w.heap.size ((i + 1) * 2) (n - i) dc (n - i) sc (n - i) 2 ⟨g, i * 2, none⟩ c1 49 (prsV (V.drop i)) Tryz.underlying32 hsz (Nat.min_self _) hds
      (fun j u hj => by
        rw [Addr.add_lit, hcell W cur g _ _ hgg]
        rw [prs_drop, List.getElem?_drop] at hj
        exact hget _ _ hj) (by rw [hW]; exact heap_setRow _ _ _ _ _ _ hW1) (by rw [hs1]; omega) (fun u hu => one_pr u hu)
  have hEnd : Hid (c2.size = G * 2 ∧ c2.toList.take ((n + 1) * 2) = prsV (V.take i ++ ⟨x, t⟩ :: V.drop i)) := by
    have hcl : (ROW.toList.take (i * 2) ++ [Value.int .i64 x, Value.string t]).length = (i + 1) * 2 := by
      rw [hRt, List.length_append, htl, List.length_cons, List.length_cons, List.length_nil]; omega
    have k1 : c1.toList.take ((i + 1) * 2) = prsV (V.take i) ++ [Value.int .i64 x, Value.string t] := by
      rw [hc1]
      show List.take _ ((ROW.toList.take (i * 2) ++ [Value.int .i64 x, Value.string t]) ++ _) = _
      rw [← hcl, List.take_left, hRt]
    refine ⟨?_, ?_⟩
    · rw [hc2]
      simp only [List.size_toArray, List.length_append, List.length_take, List.length_drop, Array.length_toList, hs1, hds]
      omega
    · rw [prs_ins, ← prs_drop, ← prs_take, hc2, k1]
      show List.take _ _ = _
      have e3 : (prsV (V.take i) ++ [Value.int .i64 x, Value.string t] ++ prsV (V.drop i)).length = (n + 1) * 2 := by
        simp only [List.length_append, htl, hds, List.length_cons, List.length_nil]
        omega
      rw [← e3, List.take_left, List.append_assoc]
  have hFin : Hid (∀ (W : World), W.heap = (((w.drew.alloc (.cells ROW 49)).setRow w.heap.size c1).setRow w.heap.size c2).heap → W.heap[w.heap.size]? = some (.cells c2 49 (0, 0))) := fun W hW => by
    rw [hW]
    exact heap_setRow _ _ _ _ _ _ (heap_setRow _ _ _ _ _ _ hW1)
  have hBy : Hid (w.grownBy (((w.drew.alloc (.cells ROW 49)).setRow w.heap.size c1).setRow w.heap.size c2) none) := by
    have := alloc_by w (.cells ROW 49) w.heap.size rfl c2 none
    rw [setRow_setRow]
    exact this
  have hG1 : n + 1 ≤ G := hGn
  have hG63 : G ≤ 9223372036854775807 := by unfold maxLen at hGm; omega
  have hGi : ¬ (G = i) := by omega
  have hGim : ¬ (G = i + 1) := by omega
  replace hGm : Hid (G ≤ maxLen) := hGm
  have mixed : (Tryz.prog).follows .mixedOrders = true := by kernel_rfl
  have hw1 : IntKind.i64.wrap ((i : Int) + 1) = (i : Int) + 1 := by rw [IntKind.wrap_i64]; omega
  have hb1 : (0 : Int) ≤ (i : Int) + 1 := by omega
  have htn : ((i : Int) + 1).toNat = i + 1 := by omega
  have hb3 : (i : Int) ≤ (n : Int) := by omega
  have hb4 : ¬ (n = i) := by omega
  clear hget hcell hsz hcur hc1 hc2 hI1 hI2 hI3 hI4 hI5 hold hkk hik hRs hRt hW1 hOld hs1 hROW htl hds hl
  go_enter Tryz.func54, Tryz.ntmps54
  go_wp2_with (first
    | (at_builtin; refine Lib.wpList_append_run _ rfl _ _ _ _ rfl _ _ rfl rfl _ _ (hrz _) ?_)
    | (refine wpList_copy_of rfl (.tmp 43) (.tmp 44) 32 32 rfl _ _ rfl rfl (hcpA _ rfl _ _) ?_)
    | fail)
  go_region_law_o (refine step_copy_of rfl _ _ 32 32 rfl (.slice (some ⟨w.heap.size, (i + 1) * 2, none⟩) (n - i) (G - (i + 1))) (.slice (some ⟨g, i * 2, none⟩) (n - i) (n - i)) (by simp [Act.eval, Act.put]) (by simp [Act.eval, Act.put]) (hcpB (((w.alloc (.cells ROW 49)).drew.setRow w.heap.size c1).drew) rfl 3 (G - (i + 1)) (n - i)) ?_)
  go_wp2
  go_ret
  exact ⟨w.heap.size, G, c2, rfl, rfl, hFin.out _ rfl, hG1, hGm.out, hEnd.out.1, hEnd.out.2, hBy.out.os, hBy.out.tape, hBy.out.output, hBy.out.size, hBy.out.block⟩
/-- One Write more, wherever it comes in. -/
theorem ins_any (B n i vb : Nat) (V : List Pr) (v : Value) (x : Int) (t : ByteArray) (w : World) (hn : V.length = n) (h : w.ownsRow B 49 2 v n (prsV V)) (hi : i ≤ n) (hB : B ≤ w.heap.size) (hm : n ≤ 1000000)
    (hv : w.heap[vb]? = some (.cells #[.int .i64 x, .string t] 49 (0, 0))) (hvb : v.ownBlock ≠ some vb) :
    Calls Tryz.prog 54 #[v, .int .i64 i, .slice (some ⟨vb, 0, none⟩) 1 1] w fun e w' => ∃ v2, e = .returned v2 ∧ w'.ownsRow B 49 2 v2 (n + 1) (prsV (V.take i ++ ⟨x, t⟩ :: V.drop i)) ∧ w.grownBy w' v.ownBlock := by
  have hlen : (prsV (V.take i ++ ⟨x, t⟩ :: V.drop i)).length = (n + 1) * 2 := by
    rw [prs_len]; simp; omega
  by_cases hin : i = n
  · subst hin
    obtain ⟨a, c, rfl⟩ : ∃ a c, v = .slice a i c := by
      rcases h.2 with ⟨q, q2⟩ | ⟨g, c, cur, q, _⟩
      · exact ⟨none, 0, by rw [q, q2]⟩
      · exact ⟨_, _, q⟩
    have e : V.take i ++ ⟨x, t⟩ :: V.drop i = V ++ [⟨x, t⟩] := by rw [← hn, List.take_length, List.drop_length]
    rw [e]
    exact ins_end B i c vb V a x t w hn h hB hm hv
  · rcases h.2 with ⟨q, q2⟩ | ⟨g, c, cur, rfl, hbg, hg, hc1, hc2, hc3, hc4⟩
    · omega
    · have hvg : vb ≠ g := fun e => hvb (by rw [e]; rfl)
      by_cases hr : n + 1 ≤ c
      · refine (ins_room g n c i vb V cur x t w hn (by omega) hr hg hc3 (by unfold maxLen at hc2; omega) hc4 hv hvg).mono ?_
        rintro e w' ⟨rfl, c2, rfl, hs, ht⟩
        refine ⟨_, rfl, ⟨hlen, .inr ⟨g, c, c2, rfl, hbg, heap_setRow w.drew g cur c2 _ _ hg, hr, hc2, hs, ht⟩⟩, rfl, rfl, rfl, ?_, fun k hk hne => ?_⟩
        · show w.heap.size ≤ (w.heap.modify g _).size
          rw [Array.size_modify]
          exact Nat.le_refl _
        · have hgk : ¬ g = k := fun e => hne (by rw [e]; rfl)
          show (w.heap.modify g _)[k]? = w.heap[k]?
          rw [Array.getElem?_modify, if_neg hgk]
      · obtain rfl : c = n := by omega
        refine (ins_grow g c i vb V cur x t w hn (by omega) hg hm hc4 hv).mono ?_
        rintro e w' ⟨G, cap, c2, rfl, hG, hh, k1, k2, k3, k4, k5⟩
        have hbw : g < w.heap.size := (Array.getElem?_eq_some_iff.1 hg).1
        exact ⟨_, rfl, ⟨hlen, .inr ⟨G, cap, c2, rfl, by omega, hh, k1, k2, k3, k4⟩⟩, k5.os, k5.tape, k5.output, k5.size, fun k hk _ => k5.block k hk (by simp)⟩
end Go.Proofs.YtbkkhafckkndfaaGreat
