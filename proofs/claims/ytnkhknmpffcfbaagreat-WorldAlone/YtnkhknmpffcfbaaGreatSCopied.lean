/-
  What world.copied does: the same world, its lists in memory of its own; nothing that was there is written.
-/
import Derived.Test.YtnkhknmpffcfbaaGreatSClone
import Derived.Test.YtnkhknmpffcfbaaGreatSAdv
namespace Go.Proofs.YtnkhknmpffcfbaaGreat
open Go Go.RowKit

set_option maxRecDepth 10000 in
set_option maxHeartbeats 4000000 in
theorem copied_any (x y : Int) (L : List Bd) (J : List Jt) (a : Option Addr) (c : Nat) (b : Option Addr) (d : Nat) (w : World) (hL : Bodies w a L) (hJ : Joints w b J) (hn : L.length ≤ 1000) (hm : J.length ≤ 1000) :
    Calls Tryz.prog 36 #[worldV x y a L.length c b J.length d] w fun e w' => Below w.heap.size w w' ∧
      ∃ a' c' g b' d', e = .returned (worldV x y a' L.length c' b' J.length d') ∧ Own w' w.heap.size a' g c' L ∧ w.heap.size ≤ g ∧ g < w'.heap.size ∧ Joints w' b' J ∧ ∀ z off, b' = some ⟨z, off, none⟩ → z ≠ g ∧ w.heap.size ≤ z := by
  obtain ⟨n, en⟩ : ∃ n, L.length = n := ⟨_, rfl⟩
  obtain ⟨m, em⟩ : ∃ m, J.length = m := ⟨_, rfl⟩
  have CB : Hid (∀ W, Bodies W a L → Calls Tryz.prog 51 #[.slice a n c] W fun e w' => (∃ v, e = .returned v ∧ w'.ownsRow W.heap.size 39 8 v n (L.flatMap Bd.row)) ∧ Below W.heap.size W w') := fun W h => by rw [← en]; exact cloneb_any L a c W h hn
  have CJ : Hid (∀ W, Joints W b J → Calls Tryz.prog 52 #[.slice b m d] W fun e w' => (∃ v, e = .returned v ∧ w'.ownsRow W.heap.size 62 3 v m (J.flatMap Jt.row)) ∧ Below W.heap.size W w') := fun W h => by rw [← em]; exact clonej_any J b d W h hm
  have G0 : ∀ c' d', Below w.heap.size w ((w.alloc (.cells c' 29)).alloc (.cells d' 29)) := fun c' d' => Go.RowKit.Below.alloc (Go.RowKit.Below.alloc (Below.refl _ _) (Nat.le_refl _) _) (by simp) _
  have HG : Hid (∀ c' d', Below w.heap.size w ((w.alloc (.cells c' 29)).alloc (.cells d' 29))) := G0
  have HOK : Hid ((∀ z ∈ L, z.ok) ∧ ∀ z ∈ J, z.ok) := ⟨hL.ok, hJ.ok⟩
  have HL0 : Hid (∀ c' d', Bodies ((w.alloc (.cells c' 29)).alloc (.cells d' 29)) a L) := fun c' d' => hL.below (G0 c' d')
  have HJ0 : Hid (∀ c' d', Joints ((w.alloc (.cells c' 29)).alloc (.cells d' 29)) b J) := fun c' d' => hJ.below (G0 c' d')
  clear hL hJ G0
  unfold worldV
  rw [en, em]
  go_enter Tryz.func36, Tryz.ntmps36
  go_upto_region 1 with (fail)
  obtain ⟨V, hV⟩ : ∃ V, V = (w.alloc (.cells #[.int .i64 x, .int .i64 y, .slice a n c, .slice b m d] 29)).alloc (.cells #[.int .i64 0, .int .i64 0, .slice none 0 0, .slice none 0 0] 29) := ⟨_, rfl⟩
  rw [← hV]
  obtain ⟨q, hq⟩ : ∃ q, w.heap.size = q := ⟨_, rfl⟩
  rw [hq]
  have hb : W4 V q x y a n c b m d := by rw [hV, ← hq]; constructor <;> simp [go_sem]
  have hk0 : V.cell? ⟨q + 1, 0, none⟩ = some (.int .i64 0) := by rw [hV, ← hq]; simp [go_sem]
  have hk1 : V.cell? ⟨q + 1, 1, none⟩ = some (.int .i64 0) := by rw [hV, ← hq]; simp [go_sem]
  have hk2 : V.cell? ⟨q + 1, 2, none⟩ = some (.slice none 0 0) := by rw [hV, ← hq]; simp [go_sem]
  have hk3 : V.cell? ⟨q + 1, 3, none⟩ = some (.slice none 0 0) := by rw [hV, ← hq]; simp [go_sem]
  have hz : ∀ o, V.frozen? ⟨q + 1, o, none⟩ = false := fun o => by rw [hV, ← hq]; simp [go_sem]
  have HV : Hid (Below q w V) := by rw [hV, ← hq]; exact HG.out _ _
  have HL : Hid (Bodies V.drew a L) := by rw [hV]; exact (HL0.out _ _).below (Go.RowKit.Below.drew (Below.refl _ _))
  have HJ : Hid (Joints V.drew b J) := by rw [hV]; exact (HJ0.out _ _).below (Go.RowKit.Below.drew (Below.refl _ _))
  have hVs : V.heap.size = q + 1 + 1 := by rw [hV, ← hq]; simp
  have HS : Hid (V.heap.size = q + 1 + 1) := hVs
  have hVq : q + 1 < V.heap.size := by omega
  clear hV HG HL0 HJ0 hVs
  refine lat_region (A := (fun w' => W4 w' q x y a n c b m d)) (S := (fun _ => True)) [] (by kernel_rfl) ?_ (fun hH0 => ?_)
  · exact ⟨hb.heap rfl, trivial⟩
  refine lat_free (i := 0) (oi := { dst := some 3, op := Go.Op.fieldAddr 29 (Go.Operand.tmp 1) 0, type := 0, pos := "world.go:94", after := #[], guard := none }) (v := ?va1) rfl (by kernel_rfl) (by kernel_rfl) (by kernel_rfl) (by kernel_rfl) (fun _ _ _ h => h) (Or.inl ⟨by rfl, ?hya1⟩) ⟨hH0.1, fun _ => hH0.2⟩ ?resta1
  case hya1 => (intro w hAw; obtain ⟨c0, c1, c2, c3⟩ := hAw; go_simp; try (with_reducible rfl))
  simp only [Act.put, List.setIfInBounds_toArray, List.set_cons_zero, List.set_cons_succ]
  refine lat_free (i := 1) (oi := { dst := some 4, op := Go.Op.load 24 (Go.Operand.tmp 3), type := 24, pos := "world.go:94", after := #[{ on := 0, ground := Go.Ground.data }], guard := none }) (v := ?va2) rfl (by kernel_rfl) (by kernel_rfl) (by kernel_rfl) (by kernel_rfl) (fun _ _ _ h => h) (Or.inl ⟨by rfl, ?hya2⟩) ⟨hH0.1, fun _ => hH0.2⟩ ?resta2
  case hya2 => (intro w hAw; obtain ⟨c0, c1, c2, c3⟩ := hAw; go_simp; try (with_reducible rfl))
  simp only [Act.put, List.setIfInBounds_toArray, List.set_cons_zero, List.set_cons_succ]
  refine lat_free (i := 2) (oi := { dst := some 5, op := Go.Op.fieldAddr 29 (Go.Operand.tmp 1) 1, type := 0, pos := "world.go:94", after := #[], guard := none }) (v := ?va3) rfl (by kernel_rfl) (by kernel_rfl) (by kernel_rfl) (by kernel_rfl) (fun _ _ _ h => h) (Or.inl ⟨by rfl, ?hya3⟩) ⟨hH0.1, fun _ => hH0.2⟩ ?resta3
  case hya3 => (intro w hAw; obtain ⟨c0, c1, c2, c3⟩ := hAw; go_simp; try (with_reducible rfl))
  simp only [Act.put, List.setIfInBounds_toArray, List.set_cons_zero, List.set_cons_succ]
  refine lat_free (i := 3) (oi := { dst := some 6, op := Go.Op.load 25 (Go.Operand.tmp 5), type := 25, pos := "world.go:94", after := #[{ on := 2, ground := Go.Ground.data }], guard := none }) (v := ?va4) rfl (by kernel_rfl) (by kernel_rfl) (by kernel_rfl) (by kernel_rfl) (fun _ _ _ h => h) (Or.inl ⟨by rfl, ?hya4⟩) ⟨hH0.1, fun _ => hH0.2⟩ ?resta4
  case hya4 => (intro w hAw; obtain ⟨c0, c1, c2, c3⟩ := hAw; go_simp; try (with_reducible rfl))
  simp only [Act.put, List.setIfInBounds_toArray, List.set_cons_zero, List.set_cons_succ]
  refine lat_free (i := 5) (oi := { dst := some 8, op := Go.Op.fieldAddr 29 (Go.Operand.tmp 1) 2, type := 0, pos := "world.go:94", after := #[], guard := none }) (v := ?va5) rfl (by kernel_rfl) (by kernel_rfl) (by kernel_rfl) (by kernel_rfl) (fun _ _ _ h => h) (Or.inl ⟨by rfl, ?hya5⟩) ⟨hH0.1, fun _ => hH0.2⟩ ?resta5
  case hya5 => (intro w hAw; obtain ⟨c0, c1, c2, c3⟩ := hAw; go_simp; try (with_reducible rfl))
  simp only [Act.put, List.setIfInBounds_toArray, List.set_cons_zero, List.set_cons_succ]
  refine lat_free (i := 6) (oi := { dst := some 9, op := Go.Op.load 26 (Go.Operand.tmp 8), type := 26, pos := "world.go:94", after := #[{ on := 5, ground := Go.Ground.data }], guard := none }) (v := ?va6) rfl (by kernel_rfl) (by kernel_rfl) (by kernel_rfl) (by kernel_rfl) (fun _ _ _ h => h) (Or.inl ⟨by rfl, ?hya6⟩) ⟨hH0.1, fun _ => hH0.2⟩ ?resta6
  case hya6 => (intro w hAw; obtain ⟨c0, c1, c2, c3⟩ := hAw; go_simp; try (with_reducible rfl))
  simp only [Act.put, List.setIfInBounds_toArray, List.set_cons_zero, List.set_cons_succ]
  refine lat_one (i := 4) (by kernel_rfl) ?_
  refine lat_run (o := { dst := some 7, op := Go.Op.call { callee := Go.Callee.value (Go.Operand.func 51), args := #[Go.Operand.tmp 6], argTypes := #[25] }, type := 25, pos := "world.go:94", after := #[{ on := 3, ground := Go.Ground.data }], guard := none }) rfl (fun K hK => ?_)
  go_simp
  go_wp2_with (first
    | (go_at_call 51; go_fit (CB.out _ (HL.out)); rintro e V1 ⟨⟨v1, rfl, r1⟩, U1⟩; obtain ⟨a1, d1, rfl, _⟩ := own_reads r1)
    | fail)
  refine hK.out _ _ (⟨hH0.1.heap (U1.block _ hH0.1.size), trivial⟩) (fun hHa7 => ?_)
  clear hK K
  refine lat_one (i := 7) (by kernel_rfl) ?_
  refine lat_run (o := { dst := some 10, op := Go.Op.call { callee := Go.Callee.value (Go.Operand.func 52), args := #[Go.Operand.tmp 9], argTypes := #[26] }, type := 26, pos := "world.go:94", after := #[{ on := 6, ground := Go.Ground.data }, { on := 4, ground := Go.Ground.chain }], guard := none }) rfl (fun K hK => ?_)
  go_simp
  go_wp2_with (first
    | (go_at_call 52; go_fit (CJ.out _ ((HJ.out).below U1)); rintro e V2 ⟨⟨v2, rfl, r2⟩, U2⟩; obtain ⟨a2, d2, rfl, _⟩ := own_reads r2)
    | fail)
  refine hK.out _ _ (⟨hHa7.1.heap (U2.block _ hHa7.1.size), trivial⟩) (fun hHa8 => ?_)
  clear hK K
  refine lat_free (i := 8) (oi := { dst := some 11, op := Go.Op.build 29 #[(0, Go.Operand.tmp 4), (1, Go.Operand.tmp 7), (2, Go.Operand.tmp 10)], type := 29, pos := "world.go:94", after := #[{ on := 1, ground := Go.Ground.data }, { on := 4, ground := Go.Ground.data }, { on := 7, ground := Go.Ground.data }], guard := none }) (v := ?va9) rfl (by kernel_rfl) (by kernel_rfl) (by kernel_rfl) (by kernel_rfl) (fun _ _ _ h => h) (Or.inl ⟨by rfl, ?hya9⟩) ⟨hHa8.1, fun _ => hHa8.2⟩ ?resta9
  case hya9 => (intro w hAw; obtain ⟨c0, c1, c2, c3⟩ := hAw; go_simp; try (with_reducible rfl))
  simp only [Act.put, List.setIfInBounds_toArray, List.set_cons_zero, List.set_cons_succ]
  refine lat_one (i := 9) (by kernel_rfl) ?_
  refine lat_run (o := { dst := none, op := Go.Op.store 29 (Go.Operand.tmp 2) (Go.Operand.tmp 11), type := 0, pos := "world.go:94", after := #[{ on := 8, ground := Go.Ground.data }, { on := 7, ground := Go.Ground.chain }, { on := 0, ground := Go.Ground.phase }, { on := 1, ground := Go.Ground.phase }, { on := 2, ground := Go.Ground.phase }, { on := 3, ground := Go.Ground.phase }, { on := 4, ground := Go.Ground.phase }, { on := 5, ground := Go.Ground.phase }, { on := 6, ground := Go.Ground.phase }, { on := 7, ground := Go.Ground.phase }, { on := 8, ground := Go.Ground.phase }], guard := none }) rfl (fun K hK => ?_)
  have UU : Below V.heap.size V.drew V2 := U1.trans (U2.mono U1.size)
  have k0 := UU.cell (p := ⟨q + 1, 0, none⟩) (by simp; omega)
  have k1 := UU.cell (p := ⟨q + 1, 1, none⟩) (by simp; omega)
  have k2 := UU.cell (p := ⟨q + 1, 2, none⟩) (by simp; omega)
  have k3 := UU.cell (p := ⟨q + 1, 3, none⟩) (by simp; omega)
  have z0 := (UU.frozen (p := ⟨q + 1, 0, none⟩) (by simp; omega)).trans (hz 0)
  have z1 := (UU.frozen (p := ⟨q + 1, 1, none⟩) (by simp; omega)).trans (hz 1)
  have z2 := (UU.frozen (p := ⟨q + 1, 2, none⟩) (by simp; omega)).trans (hz 2)
  have z3 := (UU.frozen (p := ⟨q + 1, 3, none⟩) (by simp; omega)).trans (hz 3)
  have k0 : V2.cell? ⟨q + 1, 0, none⟩ = some (.int .i64 0) := k0.trans hk0
  have k1 : V2.cell? ⟨q + 1, 1, none⟩ = some (.int .i64 0) := k1.trans hk1
  have k2 : V2.cell? ⟨q + 1, 2, none⟩ = some (.slice none 0 0) := k2.trans hk2
  have k3 : V2.cell? ⟨q + 1, 3, none⟩ = some (.slice none 0 0) := k3.trans hk3
  go_simp
  refine hK.out _ _ (⟨hHa8.1.heap (by rw [Below.heap_setCell _ _ _ _ (by simp), Below.heap_setCell _ _ _ _ (by simp), Below.heap_setCell _ _ _ _ (by simp), Below.heap_setCell _ _ _ _ (by simp)]), trivial⟩) (fun hHa10 => ?_)
  clear hK K
  refine lat_done (by kernel_rfl) ?_ _
  go_wp2_with (fail)
  have hs1 : V.heap.size ≤ V1.heap.size := U1.size
  have hs2 := U2.size
  obtain ⟨g, hO, hg1, hg2⟩ := own_of_row (d := q) r1 en HOK.out.1 (by omega)
  obtain ⟨hJ2, hz2⟩ := joints_of_row r2 em HOK.out.2
  obtain ⟨WF, hWF⟩ : ∃ X, X = (((V2.setCell ⟨q + 1, 0, none⟩ (.int .i64 x)).setCell ⟨q + 1, 1, none⟩ (.int .i64 y)).setCell ⟨q + 1, 2, none⟩ (.slice a1 n d1)).setCell ⟨q + 1, 3, none⟩ (.slice a2 m d2) := ⟨_, rfl⟩
  have hF : But (fun n => n = q + 1) V2 WF := by rw [hWF]; exact ((((But.refl (fun n => n = q + 1) V2).set (b := q + 1) rfl _ _ _).set (b := q + 1) rfl _ _ _).set (b := q + 1) rfl _ _ _).set (b := q + 1) rfl _ _ _
  have hg1 : g = q ∨ V.heap.size ≤ g := hg1
  have hVs := HS.out
  have hgq : g ≠ q + 1 := by omega
  have hO2 := ((hO.but (S := fun _ => False) (Go.Proofs.YtnkhknmpffcfbaaGreat.Below.but U2) (fun e => e)).but hF (by omega)).base (base' := q) (by show q ≤ V.heap.size; omega)
  have hJ3 := hJ2.but hF (fun z off e => by have := hz2 z off e; omega)
  have hsz := hF.size
  have hB : Below q w WF := HV.out.trans ((Go.RowKit.Below.drew (Below.refl _ _)).trans ((UU.mono (by omega)).trans ⟨hF.os, hF.tape, hF.output, hF.size, fun k hk => hF.block k (by omega) (by omega)⟩))
  rw [← hWF]
  have f0 : WF.cell? ⟨q + 1, 0, none⟩ = some (.int .i64 x) := by rw [hWF]; simp [go_sem, k0]
  have f1 : WF.cell? ⟨q + 1, 1, none⟩ = some (.int .i64 y) := by rw [hWF]; simp [go_sem, k1]
  have f2 : WF.cell? ⟨q + 1, 2, none⟩ = some (.slice a1 n d1) := by rw [hWF]; simp [go_sem, k2]
  have f3 : WF.cell? ⟨q + 1, 3, none⟩ = some (.slice a2 m d2) := by rw [hWF]; simp [go_sem, k3]
  clear hWF
  simp [bodyPost, results, Tryz.results36, go_sem, f0, f1, f2, f3]
  rw [hq]
  exact ⟨hB, a1, d1, g, a2, ⟨⟨rfl, rfl⟩, rfl⟩, hO2, by omega, by omega, hJ3, fun z off e => by have := hz2 z off e; omega⟩
end Go.Proofs.YtnkhknmpffcfbaaGreat
