/-
  slices.SortFunc, by the library's contract, at the two functions that package prune hands it: what the sorted slice owns behind it.
-/
import Derived.Test.YtnkhknmpffcfbaaGreatPClos
import Derived.Test.YtnkhknmpffcfbaaGreatPNum
import Derived.Test.YtnkhknmpffcfbaaGreatPLay
namespace Go.Proofs.YtnkhknmpffcfbaaGreat
open Go.Shelf Go.RowKit Go.Lib

section
variable {α : Type} [Inhabited α]
theorem heap_put (enc : α → Value) {w : World} {g n : Nat} {os : Array Obj} {cur : Array Value} {e : TypeId} {fr : Nat × Nat} (d : Array α) (hb : w.heap[g]? = some (.cells cur e fr)) :
    (Go.Sort.grow (Go.Sort.putRow enc (Go.Sort.ahead w n) g 0 d) os).heap[g]? = some (.cells (Go.Sort.putCells enc 0 d cur) e fr) := by
  have hg : g < w.heap.size := (Array.getElem?_eq_some_iff.1 hb).1
  rw [Go.Sort.heap_grow_old _ _ (by simpa using hg)]
  simp [Go.Sort.putRow, Go.Sort.mapBlock, Go.Sort.ahead, Array.getElem?_modify, hb, Go.Sort.onCells]
theorem grownBy_put (enc : α → Value) {w : World} {g off n : Nat} {os : Array Obj} (d : Array α) : w.grownBy (Go.Sort.grow (Go.Sort.putRow enc (Go.Sort.ahead w n) g off d) os) (some g) := by
  refine ⟨rfl, rfl, rfl, by simp, fun k hk hne => ?_⟩
  rw [Go.Sort.heap_grow_old _ _ (by simpa using hk)]
  have : g ≠ k := fun e => hne (by rw [e])
  simp [Go.Sort.putRow, Go.Sort.mapBlock, Go.Sort.ahead, Array.getElem?_modify, this]
theorem take_put (enc : α → Value) (cur : Array Value) (d : Array α) (h : d.size ≤ cur.size) : (Go.Sort.putCells enc 0 d cur).toList.take d.size = d.toList.map enc := by
  apply List.ext_getElem?
  intro j
  by_cases hj : j < d.size
  · rw [List.getElem?_take_of_lt hj, Array.getElem?_toList]
    simp [Go.Sort.putCells, hj, show j < cur.size by omega]
  · rw [List.getElem?_take_eq_none (by omega), List.getElem?_eq_none (by simp; omega)]
/-- Cells that a slice of the call's own has, held. -/
theorem holds_own (enc : α → Value) {w : World} {base g n cap size : Nat} {e : TypeId} {xs : List Value} (d : Array α) (h : w.ownsRow base e size (.slice (some ⟨g, 0, none⟩) n cap) n xs) (hx : xs = d.toList.map enc) : Go.Sort.Holds enc w g 0 d := by
  intro j hj
  have hl : n * size = d.size := by rw [← h.1, hx]; simp
  refine ⟨?_, ?_⟩
  · rw [Nat.zero_add, h.cellAt j (by omega), hx]
    simp [hj]
  · rw [Nat.zero_add]; exact h.frozenAt j
/-- .. and behind the cells' being laid anew. -/
theorem own_put (enc : α → Value) {w : World} {base g n cap size k : Nat} {e : TypeId} {os : Array Obj} {xs : List Value} (d : Array α) (h : w.ownsRow base e size (.slice (some ⟨g, 0, none⟩) n cap) n xs) (hd : d.size = n * size) :
    (Go.Sort.grow (Go.Sort.putRow enc (Go.Sort.ahead w k) g 0 d) os).ownsRow base e size (.slice (some ⟨g, 0, none⟩) n cap) n (d.toList.map enc) := by
  refine ⟨by simp [hd], ?_⟩
  rcases h.2 with ⟨h', _⟩ | ⟨g', cap', cur, h', hb, hg, hnc, hcm, hcs, htake⟩
  · simp at h'
  · simp only [Value.slice.injEq, Option.some.injEq, Addr.mk.injEq, and_true, true_and] at h'
    obtain ⟨rfl, rfl⟩ := h'
    have hle : d.size ≤ cur.size := by rw [hd, hcs]; exact Nat.mul_le_mul_right _ hnc
    exact .inr ⟨g, cap, _, rfl, hb, heap_put enc d hg, hnc, hcm, by simp [Go.Sort.putCells, hcs], by rw [← hd]; exact take_put enc cur d hle⟩
end

/-- Boxes that lie in memory, one behind the other. -/
structure Boxes (w : World) (a : Option Addr) (L : List Bx) : Prop where
  ok : ∀ x ∈ L, x.ok
  at' : L = [] ∨ ∃ b off, a = some ⟨b, off, none⟩ ∧ ∀ i, i < L.length →
    w.cell? ⟨b, off + i * 4, none⟩ = some (.int .i64 (bx L i).l) ∧ w.cell? ⟨b, off + i * 4 + 1, none⟩ = some (.int .i64 (bx L i).m) ∧
    w.cell? ⟨b, off + i * 4 + 2, none⟩ = some (.int .i64 (bx L i).h) ∧ w.cell? ⟨b, off + i * 4 + 3, none⟩ = some (.int .i64 (bx L i).k)
theorem Boxes.below {w w' : World} {a : Option Addr} {L : List Bx} (h : Boxes w a L) (g : Below w.heap.size w w') : Boxes w' a L := by
  refine ⟨h.ok, ?_⟩
  rcases h.at' with h | ⟨b, off, e, h⟩
  · exact .inl h
  · refine .inr ⟨b, off, e, fun i hi => ?_⟩
    obtain ⟨h0, h1, h2, h3⟩ := h i hi
    exact ⟨(g.cell (cell_block h0)).trans h0, (g.cell (cell_block h1)).trans h1, (g.cell (cell_block h2)).trans h2, (g.cell (cell_block h3)).trans h3⟩
theorem Boxes.block {w : World} {a : Option Addr} {L : List Bx} (h : Boxes w a L) (hn : 0 < L.length) : ∃ b off, a = some ⟨b, off, none⟩ ∧ b < w.heap.size ∧ ∀ i, i < L.length →
    w.cell? ⟨b, off + i * 4, none⟩ = some (.int .i64 (bx L i).l) ∧ w.cell? ⟨b, off + i * 4 + 1, none⟩ = some (.int .i64 (bx L i).m) ∧
    w.cell? ⟨b, off + i * 4 + 2, none⟩ = some (.int .i64 (bx L i).h) ∧ w.cell? ⟨b, off + i * 4 + 3, none⟩ = some (.int .i64 (bx L i).k) := by
  rcases h.at' with h | ⟨b, off, e, h⟩
  · rw [h] at hn; simp at hn
  · exact ⟨b, off, e, cell_block (h 0 hn).1, h⟩

/-- A place as the code has it. -/
def natV (i : Nat) : Value := .int .i64 (i : Int)

/-! The order of places -/
def cfS (L : List Bx) (i j : Fin L.length) : Int := orI (cmpI (bx L i.val).l (bx L j.val).l) (cmpI (i.val : Int) (j.val : Int))
theorem lt_cfS (L : List Bx) (i j : Fin L.length) : ltOf (cfS L) i j = true ↔ ltS L i.val j.val := by
  unfold ltOf cfS ltS
  rw [decide_eq_true_iff]
  rcases Int.lt_trichotomy (bx L i.val).l (bx L j.val).l with h | h | h
  · rw [cmpI_lt h]; simp only [orI]; omega
  · rw [cmpI_eq h, orI, if_pos rfl]
    rcases Int.lt_trichotomy (i.val : Int) (j.val : Int) with g | g | g
    · rw [cmpI_lt g]; omega
    · rw [cmpI_eq g]; omega
    · rw [cmpI_gt g]; omega
  · rw [cmpI_gt h]; simp only [orI]; omega
theorem lt_cfS_no (L : List Bx) (i j : Fin L.length) : ltOf (cfS L) i j = false ↔ ¬ ltS L i.val j.val := by
  rw [← lt_cfS]; simp
theorem swoS (L : List Bx) : Go.Sort.SWO (ltOf (cfS L)) where
  irrefl x := by rw [lt_cfS_no]; unfold ltS; omega
  trans x y z h1 h2 := by rw [lt_cfS] at *; unfold ltS at *; omega
  ntrans x y z h1 h2 := by rw [lt_cfS_no] at *; unfold ltS at *; omega
theorem totS (L : List Bx) (x y : Fin L.length) (h1 : ltOf (cfS L) x y = false) (h2 : ltOf (cfS L) y x = false) : x = y := by
  rw [lt_cfS_no] at *
  unfold ltS at *
  apply Fin.ext
  omega
theorem fin_vals (n : Nat) : (List.finRange n).map (fun i => i.val) = List.range n := by
  apply List.ext_getElem (by simp)
  intro i h1 h2
  simp
theorem is_sorted (L : List Bx) : IsSorted L (((List.finRange L.length).mergeSort fun x y => !ltOf (cfS L) y x).map (fun i => i.val)) := by
  have hp : (((List.finRange L.length).mergeSort fun x y => !ltOf (cfS L) y x).map (fun i => i.val)).Perm (List.range L.length) := by
    rw [← fin_vals]
    exact (List.mergeSort_perm _ _).map _
  refine ⟨hp, ?_⟩
  have hd := hp.nodup_iff.2 List.nodup_range
  have hs := List.pairwise_mergeSort (le := fun x y => !ltOf (cfS L) y x) (fun a b c h1 h2 => by
    simp only [Bool.not_eq_true'] at *
    exact (swoS L).ntrans _ _ _ h2 h1) (fun a b => by
    simp only [Bool.or_eq_true, Bool.not_eq_true']
    rw [lt_cfS_no, lt_cfS_no]
    unfold ltS
    omega) (List.finRange L.length)
  rw [List.pairwise_map]
  have hd2 := List.pairwise_map.1 (show List.Pairwise (· ≠ ·) _ from hd)
  refine (hs.and hd2).imp ?_
  rintro a b ⟨h1, h2⟩
  simp only [Bool.not_eq_true'] at h1
  rw [lt_cfS_no] at h1
  unfold ltS at *
  omega

/-! The order of pairs -/
def encP (p : Nat × Nat) : List Value := [.int .i64 (p.1 : Int), .int .i64 (p.2 : Int)]
def cfP (p q : Nat × Nat) : Int := orI (cmpI (p.1 : Int) (q.1 : Int)) (cmpI (p.2 : Int) (q.2 : Int))
theorem lt_cfP (p q : Nat × Nat) : ltOf cfP p q = true ↔ ltP p q := by
  unfold ltOf cfP ltP
  rw [decide_eq_true_iff]
  rcases Int.lt_trichotomy (p.1 : Int) (q.1 : Int) with h | h | h
  · rw [cmpI_lt h]; simp only [orI]; omega
  · rw [cmpI_eq h, orI, if_pos rfl]
    rcases Int.lt_trichotomy (p.2 : Int) (q.2 : Int) with g | g | g
    · rw [cmpI_lt g]; omega
    · rw [cmpI_eq g]; omega
    · rw [cmpI_gt g]; omega
  · rw [cmpI_gt h]; simp only [orI]; omega
theorem lt_cfP_no (p q : Nat × Nat) : ltOf cfP p q = false ↔ ¬ ltP p q := by
  rw [← lt_cfP]; simp
theorem swoP : Go.Sort.SWO (ltOf cfP) where
  irrefl x := by rw [lt_cfP_no]; unfold ltP; omega
  trans x y z h1 h2 := by rw [lt_cfP] at *; unfold ltP at *; omega
  ntrans x y z h1 h2 := by rw [lt_cfP_no] at *; unfold ltP at *; omega
theorem totP (x y : Nat × Nat) (h1 : ltOf cfP x y = false) (h2 : ltOf cfP y x = false) : x = y := by
  rw [lt_cfP_no] at *
  unfold ltP at *
  apply Prod.ext <;> omega
/-- Sorted, what holds just the pairs of a list that stands in order is that list. -/
theorem sort_prs {F P : List (Nat × Nat)} (h : F.Perm P) (hs : P.Pairwise ltP) : (F.mergeSort fun x y => !ltOf cfP y x) = P := by
  refine List.Perm.eq_of_pairwise (le := fun x y => (!ltOf cfP y x) = true) ?_ ?_ ?_ ((List.mergeSort_perm _ _).trans h)
  · intro a b _ _ h1 h2
    simp only [Bool.not_eq_true'] at h1 h2
    exact totP a b h2 h1
  · exact List.pairwise_mergeSort (fun a b c h1 h2 => by
      simp only [Bool.not_eq_true'] at *
      exact swoP.ntrans _ _ _ h2 h1) (fun a b => by
      simp only [Bool.or_eq_true, Bool.not_eq_true']
      rw [lt_cfP_no, lt_cfP_no]
      unfold ltP
      omega) F
  · refine hs.imp ?_
    intro a b hab
    simp only [Bool.not_eq_true']
    rw [lt_cfP_no]
    unfold ltP at *
    omega

theorem flat_pairs (F : List (Nat × Nat)) : (Go.Sort.flatK encP 2 F.toArray).toList = F.flatMap encP := by
  induction F with
  | nil => simp [Go.Sort.flatK]
  | cons p F ih =>
    rw [List.flatMap_cons, ← ih]
    apply List.ext_getElem
    · simp [encP]; omega
    · intro i h1 h2
      have hi : i < (F.length + 1) * 2 := by simpa using h1
      simp only [Go.Sort.flatK, List.size_toArray, List.length_cons, Array.toList_map, Array.toList_range, List.getElem_map, List.getElem_range]
      match i with
      | 0 => simp [encP]
      | 1 => simp [encP]
      | i + 2 =>
        rw [List.getElem_append_right (by simp [encP])]
        simp [encP, show (i + 2) / 2 = i / 2 + 1 by omega]

theorem sorti_any (L : List Bx) (a : Option Addr) (cap p g base : Nat) (w : World) (hL : Boxes w a L) (hn : 0 < L.length) (hn2 : L.length ≤ 1000000) (hp : w.cell? ⟨p, 0, none⟩ = some (.slice a L.length cap)) (hpg : p ≠ g)
    (hag : ∀ b off, a = some ⟨b, off, none⟩ → b ≠ g) (ho : w.ownsRow base 3 1 (.slice (some ⟨g, 0, none⟩) L.length L.length) L.length ((List.range L.length).map natV)) :
    Calls Tryz.prog 105 #[.slice (some ⟨g, 0, none⟩) L.length L.length, .func (.func 106) #[] #[.pointer (some ⟨p, 0, none⟩)]] w fun e w' => e = .returned (.tuple #[]) ∧
      (∃ S, IsSorted L S ∧ w'.ownsRow base 3 1 (.slice (some ⟨g, 0, none⟩) L.length L.length) L.length (S.map natV)) ∧ w.grownBy w' (some g) := by
  letI : Inhabited (Fin L.length) := ⟨⟨0, hn⟩⟩
  have eg : ∀ args w, (callFunc 106 args).run Tryz.prog w = .ok (.enter 106 args) w := enters_of Tryz.func106 (by kernel_rfl) rfl
  have hd : (List.finRange L.length).toArray.size = L.length := by simp
  have hH : Go.Sort.Holds (fun i : Fin L.length => Value.int .i64 (i.val : Int)) w g 0 (List.finRange L.length).toArray := by
    refine holds_own _ _ ho ?_
    rw [← fin_vals, List.map_map]
    rfl
  have hg : g < w.heap.size := (ho.lt g rfl).2
  obtain ⟨b, off, rfl, hb, hc⟩ := hL.block hn
  have hbg := hag b off rfl
  have hcmp : CmpLays1 Tryz.prog 106 #[.pointer (some ⟨p, 0, none⟩)] (fun i : Fin L.length => Value.int .i64 (i.val : Int)) (cfS L) g 0 (List.finRange L.length).toArray.size w := by
    intro m os dk hs x y
    have G : w.grownBy (sortWorld (fun i : Fin L.length => Value.int .i64 (i.val : Int)) w g 0 m dk os) (some g) := grownBy_put _ _
    refine (clo_any ⟨p, 0, none⟩ b off L.length cap x.val y.val (bx L x.val).l (bx L y.val).l _ (G.cell hp (by simpa using hpg)) x.isLt y.isLt (G.cell (hc _ x.isLt).1 (by simpa using hbg)) (G.cell (hc _ y.isLt).1 (by simpa using hbg))).mono ?_
    rintro e w' ⟨he, hE⟩
    exact ⟨he, hE.grow⟩
  have hcon := Any.slices_SortFunc_total Tryz.sortI (fun i : Fin L.length => Value.int .i64 (i.val : Int)) (fun _ => rfl) (cfS L) (swoS L) 106 #[.pointer (some ⟨p, 0, none⟩)] g 0 L.length (List.finRange L.length).toArray w eg hcmp hH hg (by rw [hd]; omega) (totS L)
  change Calls Tryz.prog 105 _ _ _ at hcon
  rw [hd] at hcon
  refine hcon.mono ?_
  rintro e w' ⟨he, n, os, rfl⟩
  refine ⟨he, ⟨_, is_sorted L, ?_⟩, grownBy_put _ _⟩
  have := own_put (fun i : Fin L.length => Value.int .i64 (i.val : Int)) (k := n) (os := os) ((List.finRange L.length).mergeSort fun x y => !ltOf (cfS L) y x).toArray ho (by simp [List.length_mergeSort])
  rw [List.map_map]
  exact this

theorem sortp_any (F P : List (Nat × Nat)) (v : Value) (base : Nat) (w : World) (hF : F.Perm P) (hP : P.Pairwise ltP) (hl : F.length ≤ 1000000) (ho : w.ownsRow base 111 2 v F.length (F.flatMap encP)) :
    Calls Tryz.prog 90 #[v, .func (.func 91) #[] #[]] w fun e w' => e = .returned (.tuple #[]) ∧
      w'.ownsRow base 111 2 v P.length (P.flatMap encP) ∧ w.grownBy w' v.ownBlock := by
  have hlen := hF.length_eq
  rcases ho.2 with ⟨rfl, h0⟩ | ⟨g, cap, cur, rfl, hb, hg, h1, h2, h3, h4⟩
  · have hcon := AnyF.slices_SortFunc_none (P := Tryz.prog) (ρ := Tryz.sortP_ren) { Tryz.sortP with } none 0 (.func (.func 91) #[] #[]) w
    change Calls Tryz.prog 90 _ _ _ at hcon
    refine hcon.mono ?_
    rintro e w' ⟨he, rfl⟩
    have hP0 : P = [] := List.eq_nil_of_length_eq_zero (by omega)
    subst hP0
    exact ⟨he, World.ownsRow_nil _ _ _ _, ⟨rfl, rfl, rfl, Nat.le_refl _, fun _ _ _ => rfl⟩⟩
  have eg : ∀ args w, (callFunc 91 args).run Tryz.prog w = .ok (.enter 91 args) w := enters_of Tryz.func91 (by kernel_rfl) rfl
  have hH : Go.Sort.HoldsK encP 2 w g 0 F.toArray := holds_own id _ ho (by rw [flat_pairs, List.map_id])
  have hgl : g < w.heap.size := (ho.lt g rfl).2
  have hcmp : CmpLays Tryz.prog 91 #[] encP 2 cfP g 0 F.toArray.size w := by
    intro m os dk hs x y
    refine (byp_any x.1 x.2 y.1 y.2 _).mono ?_
    rintro e w' ⟨he, hE⟩
    exact ⟨he, hE.grow⟩
  have hcon := AnyQ.slices_SortFunc_total Tryz.sortP 2 Tryz.isAgg111 Tryz.sizeOf111 encP (fun _ => rfl) (fun x v hv => by simp [encP] at hv; rcases hv with rfl | rfl <;> rfl) cfP swoP 91 #[] g 0 cap F.toArray w eg hcmp hH hgl (by simp; omega) totP
  change Calls Tryz.prog 90 _ _ _ at hcon
  rw [List.size_toArray] at hcon
  refine hcon.mono ?_
  rintro e w' ⟨he, n, os, rfl⟩
  refine ⟨he, ?_, grownBy_put _ _⟩
  rw [show F.toArray.toList = F from rfl, sort_prs hF hP]
  rw [← hlen]
  have := own_put id (k := n) (os := os) (Go.Sort.flatK encP 2 P.toArray) ho (by simp [hlen])
  rw [flat_pairs, List.map_id] at this
  exact this

end Go.Proofs.YtnkhknmpffcfbaaGreat
