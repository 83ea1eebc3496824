/-
  The document's own platter: Platters.
-/
import Derived.Test.YtbkkhafckkndfaaGreatPxTRefSettle
import Derived.Test.YtbkkhafckkndfaaGreatPk02
import Derived.Deep.Cut
namespace Go.Proofs.YtbkkhafckkndfaaGreat
open Go Go.RowKit

set_option maxRecDepth 100000 in
theorem info_str : ∃ (i : TypeInfo) (z : Value), (Tryz.prog).info? 9 = some i ∧ i.zero = some z ∧ z.cells.size = 1 ∧ i.size = 1 ∧ i.bytes = 16 := ⟨_, _, rfl, rfl, rfl, rfl, rfl⟩
theorem newQ_len (k : Nat) : (newQ k).last.length = k := by simp [newQ]
theorem newQ_ok {k : Nat} (h : k ≤ 200) : (newQ k).ok := ⟨by rw [newQ_len]; exact h, fun x hx => by rw [(List.mem_replicate.1 hx).2, zerosB_size], by simp [newQ], by simp [newQ], by simp [newQ, inF]⟩
theorem strs_more (k : Nat) : strsV (newQ k).last ++ [.string (zerosB 128)] = strsV (newQ (k + 1)).last := by simp [strsV, newQ, List.replicate_succ']
theorem _root_.Go.World.ownsRow.base {w : World} {B n k : Nat} {E : TypeId} {v : Value} {xs : List Value} (h : w.ownsRow B E k v n xs) : ∀ i, v.ownBlock = some i → B ≤ i := by
  intro i e
  rcases h.2 with ⟨q, _⟩ | ⟨g, c, cur, q, hb, _⟩
  · rw [q] at e; cases e
  · rw [q] at e
    obtain rfl : g = i := by simpa [Value.ownBlock] using e
    exact hb
theorem RAt.set0 {W : World} {base b c1 c4 k : Nat} {a1 a4 : Option Addr} (h : RAt W base b a1 c1 none 0 (newQ k)) {m : Nat} (hm : m = k + 1) (hk : k < 200) (ho : W.ownsRow base 9 1 (.slice a4 ((newQ k).last.length + 1) c4) ((newQ k).last.length + 1) (strsV (newQ k).last ++ [.string (zerosB 128)])) :
    RAt (W.setCell ⟨b, 0, none⟩ (.slice a4 m c4)) base b a4 c4 none 0 (newQ (k + 1)) := by
  subst hm
  have hblk := h.blk
  have G2 : But (fun i => i = b) W (W.setCell ⟨b, 0, none⟩ (.slice a4 (k + 1 : Nat) c4)) := (But.refl (fun i => i = b) W).set (b := b) rfl 0 none _
  rw [strs_more, newQ_len] at ho
  refine ⟨h.lb, ?_, ?_, World.ownsRow_nil _ _ _ _, newQ_ok (by omega)⟩
  · rw [heap_setCell_same W b 0 _ _ _ hblk, newQ_len, newQ_len]
    rfl
  · rw [newQ_len]
    refine row_but ho G2 ?_
    rintro i e rfl
    rcases ho.2 with ⟨q, q2⟩ | ⟨g, c, cur, q, _, hg, _⟩
    · simp at q
    · rw [q] at e
      obtain rfl : g = i := by simpa [Value.ownBlock] using e
      rw [hblk] at hg
      simp at hg
theorem rnew_no (w : World) (n : Int) (h : n < 1 ∨ 200 < n) : Calls Tryz.prog 6 #[.int .i64 n] w fun e w' => e = .returned (.pointer none) ∧ w' = w := by
  go_enter Tryz.func6, Tryz.ntmps6
  by_cases h1 : n < 1
  · go_wp2
    go_ret
    exact ⟨rfl, rfl⟩
  · have h2 : 200 < n := by omega
    go_wp2
    go_ret
    exact ⟨rfl, rfl⟩
/-- What Platters makes. -/
def RNewed (w : World) (k : Nat) (e : Ending) (w' : World) : Prop :=
  ∃ b a1 c1, e = .returned (.pointer (some ⟨b, 0, none⟩)) ∧ RAt w' w.heap.size b a1 c1 none 0 (newQ k) ∧ But (fun _ => False) w w'
set_option maxRecDepth 10000 in
set_option maxHeartbeats 4000000 in
theorem rnew_any (w : World) (n : Nat) (h0 : 0 < n) (h1 : n ≤ 200) : Calls Tryz.prog 6 #[.int .i64 (n : Int)] w fun e w' => RNewed w n e w' := by
  obtain ⟨iw, zw, i1, i2, i3, i4, i5⟩ := info_str
  have n1 : ¬ (n : Int) < 1 := by omega
  have n2 : ¬ 200 < (n : Int) := by omega
  go_enter Tryz.func6, Tryz.ntmps6
  go_wp2
  go_loopw [4] (fun i wr => ∃ (k : Nat) (a1 : Option Addr) (c1 : Nat), k ≤ n ∧ i = .int .i64 k ∧ RAt wr w.heap.size w.heap.size a1 c1 none 0 (newQ k) ∧ But (fun i => w.heap.size ≤ i) w wr) (fun i _ => n - (intOf i).toNat)
  case atStart => exact ⟨0, none, 0, by omega, rfl, ⟨Nat.le_refl _, heap_alloc_new _ _, World.ownsRow_nil _ _ _ _, World.ownsRow_nil _ _ _ _, newQ_ok (by omega)⟩, (But.refl _ _).alloc _⟩
  case round =>
    obtain ⟨k, a1, c1, hk, rfl, hP, hB⟩ := hrel
    generalize hb : w.heap.size = b at *
    have HB : Hid (But (fun i => b ≤ i) w wr) := hB
    have HP : Hid (RAt wr b b a1 c1 none 0 (newQ k)) := hP
    clear hB hP
    by_cases hlt : k < n
    · have hi : (k : Int) < (n : Int) := by omega
      have hw : wrap64 ((k : Int) + 1) = (k : Int) + 1 := IntWalk.wrap64_in _ ⟨by omega, by omega⟩
      go_upto_region 7 with (fail)
      refine lat_region (A := (fun _ => True)) (S := (fun w' => RAt w' b b a1 c1 none 0 (newQ k))) [10] (by kernel_rfl) ?_ (fun hH0 => ?_)
      · exact ⟨trivial, HP.out.but (S := fun _ => False) (Grew.but (Grew.refl _).drew) (fun _ _ e => e)⟩
      refine lat_free (i := 0) (oi := { dst := some 18, op := Go.Op.move (Go.Operand.tmp 3), type := 26, pos := "disk.go:52", after := #[], guard := none }) (v := ?va1) rfl (by kernel_rfl) (by kernel_rfl) (by kernel_rfl) (by kernel_rfl) (fun _ _ _ h => h) (Or.inl ⟨by rfl, ?hya1⟩) ⟨hH0.1, fun _ => hH0.2⟩ ?resta1
      case hya1 => (intro w hAw; skip; go_simp; try (with_reducible rfl))
      simp only [Act.put, List.setIfInBounds_toArray, List.set_cons_zero, List.set_cons_succ]
      refine lat_free (i := 1) (oi := { dst := some 19, op := Go.Op.move (Go.Operand.tmp 3), type := 26, pos := "disk.go:52", after := #[], guard := none }) (v := ?va2) rfl (by kernel_rfl) (by kernel_rfl) (by kernel_rfl) (by kernel_rfl) (fun _ _ _ h => h) (Or.inl ⟨by rfl, ?hya2⟩) ⟨hH0.1, fun _ => hH0.2⟩ ?resta2
      case hya2 => (intro w hAw; skip; go_simp; try (with_reducible rfl))
      simp only [Act.put, List.setIfInBounds_toArray, List.set_cons_zero, List.set_cons_succ]
      refine lat_free (i := 2) (oi := { dst := some 20, op := Go.Op.nilCheck (Go.Operand.tmp 19), type := 0, pos := "disk.go:52", after := #[{ on := 1, ground := Go.Ground.data }], guard := none }) (v := ?va3) rfl (by kernel_rfl) (by kernel_rfl) (by kernel_rfl) (by kernel_rfl) (fun _ _ _ h => h) (Or.inl ⟨by rfl, ?hya3⟩) ⟨hH0.1, fun _ => hH0.2⟩ ?resta3
      case hya3 => (intro w hAw; skip; go_simp; try (with_reducible rfl))
      simp only [Act.put, List.setIfInBounds_toArray, List.set_cons_zero, List.set_cons_succ]
      refine lat_free (i := 3) (oi := { dst := some 21, op := Go.Op.fieldAddr 57 (Go.Operand.tmp 20) 0, type := 0, pos := "disk.go:52", after := #[{ on := 2, ground := Go.Ground.data }], guard := none }) (v := ?va4) rfl (by kernel_rfl) (by kernel_rfl) (by kernel_rfl) (by kernel_rfl) (fun _ _ _ h => h) (Or.inl ⟨by rfl, ?hya4⟩) ⟨hH0.1, fun _ => hH0.2⟩ ?resta4
      case hya4 => (intro w hAw; skip; go_simp; try (with_reducible rfl))
      simp only [Act.put, List.setIfInBounds_toArray, List.set_cons_zero, List.set_cons_succ]
      refine lat_take (i := 4) (oi := { dst := some 22, op := Go.Op.load 22 (Go.Operand.tmp 21), type := 22, pos := "disk.go:52", after := #[{ on := 3, ground := Go.Ground.data }], guard := none }) (v := ?va5) rfl (by kernel_rfl) (by kernel_rfl) (by kernel_rfl) (by kernel_rfl) (by kernel_rfl) (fun _ _ _ h => h) (Or.inl ⟨by rfl, ?hya5⟩) hH0 ?resta5
      case hya5 => (intro w hSw; have q0 := hSw.k0; go_simp; try (with_reducible rfl))
      simp only [Act.put, List.setIfInBounds_toArray, List.set_cons_zero, List.set_cons_succ]
      refine lat_one (i := 5) (by kernel_rfl) ?_
      refine lat_run (o := { dst := some 23, op := Go.Op.call { callee := Go.Callee.value (Go.Operand.func 17), args := #[Go.Operand.const (Go.Value.int Go.IntKind.i64 128)], argTypes := #[3] }, type := 9, pos := "disk.go:52", after := #[], guard := none }) rfl (fun K hK => ?_)
      have hP2 : Hid (RAt wr.drew b b a1 c1 none 0 (newQ k)) := HP.out.but (S := fun _ => False) (Grew.but (Grew.refl _).drew) (fun _ _ e => e)
      go_simp
      go_wp2_with (first
        | (go_at_call 17; go_fit (zeros_any wr.drew 128 (by omega) (by omega)); rintro e w' ⟨rfl, hG⟩; have hP3 := (show Hid _ from hP2.out.but (S := fun _ => False) (Grew.but hG) (fun _ _ e => e)); have hG3 := (show Hid _ from hG))
        | fail)
      refine hK.out _ _ (⟨trivial, hP3.out⟩) (fun hHa6 => ?_)
      clear hK K
      refine lat_one (i := 6) (by kernel_rfl) ?_
      refine lat_run (o := { dst := some 24, op := Go.Op.buildSlice 22 1 #[(0, Go.Operand.tmp 23)], type := 22, pos := "disk.go:52", after := #[{ on := 5, ground := Go.Ground.data }], guard := none }) rfl (fun K hK => ?_)
      have hP4 : Hid (RAt (w'.alloc (.cells #[.string (zerosB 128)] 9)) b b a1 c1 none 0 (newQ k)) := hP3.out.but (S := fun _ => False) (Grew.but ((Grew.refl _).alloc _ _)) (fun _ _ e => e)
      go_simp
      refine hK.out _ _ (⟨trivial, hP4.out⟩) (fun hHa7 => ?_)
      clear hK K
      refine lat_one (i := 7) (by kernel_rfl) ?_
      refine lat_run (o := { dst := some 25, op := Go.Op.call { callee := Go.Callee.builtin Go.Builtin.append, args := #[Go.Operand.tmp 22, Go.Operand.tmp 24], argTypes := #[22, 22] }, type := 22, pos := "disk.go:52", after := #[{ on := 4, ground := Go.Ground.data }, { on := 6, ground := Go.Ground.data }, { on := 5, ground := Go.Ground.chain }], guard := none }) rfl (fun K hK => ?_)
      refine step_app _ (by rfl) (.tmp 22) (.tmp 24) 22 (by rfl) b 9 iw zw 1 16 Tryz.underlying22 i1 i2 i4 i5 i3 (by decide) (.slice a1 (newQ k).last.length c1) (newQ k).last.length (strsV (newQ k).last) (by rfl) hP4.out.r1 (some ⟨w'.heap.size, 0, none⟩) 1 1 [.string (zerosB 128)] (by rfl) rfl (.inr ⟨_, 0, rfl, fun j u hj => by match j, hj with | 0, hj => (simp at hj; subst hj; rw [cell_of_row _ _ _ _ _ _ (heap_alloc_new _ _)]; rfl)⟩) (fun u hu => by simp at hu; subst hu; rfl) (by rw [newQ_len]; unfold maxLen; omega) (by rw [newQ_len]; omega) (by have := hP4.out.lb; have := (Array.getElem?_eq_some_iff.1 hP4.out.blk).1; omega) ?_
      intro v4 w4 hv4 hg4 hk4 hl4
      obtain ⟨a4, c4, rfl, _⟩ := own_reads hv4
      have hB4 : Hid (But (fun i => (Value.slice a1 0 0).ownBlock = some i) (w'.alloc (.cells #[.string (zerosB 128)] 9)) w4) := ⟨hg4.os, hg4.tape, hg4.output, hg4.size, fun i hi hn => hg4.block i hi (fun e => hn ((own_any _ _ _).symm.trans e.symm))⟩
      have hP5 : Hid (RAt w4 b b a1 c1 none 0 (newQ k)) := ⟨hP4.out.lb, (hB4.out.block b (Array.getElem?_eq_some_iff.1 hP4.out.blk).1 (fun e => hP4.out.b1 e rfl)).trans hP4.out.blk, hk4, World.ownsRow_nil _ _ _ _, hP4.out.ok⟩
      replace hv4 := show Hid _ from hv4
      replace hl4 := show Hid _ from hl4
      clear hg4 hk4
      simp only [Act.put, List.setIfInBounds_toArray, List.set_cons_zero, List.set_cons_succ]
      refine hK.out _ _ (⟨trivial, hP5.out⟩) (fun hHa8 => ?_)
      clear hK K
      refine lat_free (i := 8) (oi := { dst := some 26, op := Go.Op.nilCheck (Go.Operand.tmp 18), type := 0, pos := "disk.go:52", after := #[{ on := 0, ground := Go.Ground.data }, { on := 0, ground := Go.Ground.phase }, { on := 1, ground := Go.Ground.phase }, { on := 2, ground := Go.Ground.phase }, { on := 3, ground := Go.Ground.phase }, { on := 4, ground := Go.Ground.phase }, { on := 5, ground := Go.Ground.phase }, { on := 6, ground := Go.Ground.phase }, { on := 7, ground := Go.Ground.phase }], guard := none }) (v := ?va9) rfl (by kernel_rfl) (by kernel_rfl) (by kernel_rfl) (by kernel_rfl) (fun _ _ _ h => h) (Or.inl ⟨by rfl, ?hya9⟩) ⟨hHa8.1, fun _ => hHa8.2⟩ ?resta9
      case hya9 => (intro w hAw; skip; go_simp; try (with_reducible rfl))
      simp only [Act.put, List.setIfInBounds_toArray, List.set_cons_zero, List.set_cons_succ]
      refine lat_free (i := 9) (oi := { dst := some 27, op := Go.Op.fieldAddr 57 (Go.Operand.tmp 26) 0, type := 0, pos := "disk.go:52", after := #[{ on := 8, ground := Go.Ground.data }, { on := 0, ground := Go.Ground.phase }, { on := 1, ground := Go.Ground.phase }, { on := 2, ground := Go.Ground.phase }, { on := 3, ground := Go.Ground.phase }, { on := 4, ground := Go.Ground.phase }, { on := 5, ground := Go.Ground.phase }, { on := 6, ground := Go.Ground.phase }, { on := 7, ground := Go.Ground.phase }], guard := none }) (v := ?va10) rfl (by kernel_rfl) (by kernel_rfl) (by kernel_rfl) (by kernel_rfl) (fun _ _ _ h => h) (Or.inl ⟨by rfl, ?hya10⟩) ⟨hHa8.1, fun _ => hHa8.2⟩ ?resta10
      case hya10 => (intro w hAw; skip; go_simp; try (with_reducible rfl))
      simp only [Act.put, List.setIfInBounds_toArray, List.set_cons_zero, List.set_cons_succ]
      refine lat_one (i := 10) (by kernel_rfl) ?_
      refine lat_write (o := { dst := none, op := Go.Op.store 22 (Go.Operand.tmp 27) (Go.Operand.tmp 25), type := 0, pos := "disk.go:52", after := #[{ on := 9, ground := Go.Ground.data }, { on := 7, ground := Go.Ground.data }, { on := 7, ground := Go.Ground.chain }, { on := 0, ground := Go.Ground.phase }, { on := 1, ground := Go.Ground.phase }, { on := 2, ground := Go.Ground.phase }, { on := 3, ground := Go.Ground.phase }, { on := 4, ground := Go.Ground.phase }, { on := 5, ground := Go.Ground.phase }, { on := 6, ground := Go.Ground.phase }, { on := 7, ground := Go.Ground.phase }], guard := none }) rfl (by kernel_rfl) (fun K hK => ?_)
      have z0 := hP5.out.z 0
      have y0 := hP5.out.k0
      go_simp
      refine hK.out _ _ (trivial) (fun hHa11 => ?_)
      clear hK K
      refine lat_done (by kernel_rfl) ?_ _
      go_wp2_with (fail)
      have hD := hP5.out.set0 (m := (newQ k).last.length + 1) (by rw [newQ_len]) (by omega) hv4.out
      refine ⟨⟨k + 1, a4, c4, by omega, by simp, hD, ?_⟩, ?_⟩
      · exact ((HB.out.trans (((Grew.refl _).drew.trans hG3.out).alloc _ _).but).trans (hB4.out.more (fun i _ e => hP4.out.r1.base i ((own_any _ _ _).trans e)))).set (b := b) HP.out.lb 0 none _
      · have hm := rmeas _ _ hlt hw; rw [hw] at hm; exact hm
    · have hi : ¬ (k : Int) < (n : Int) := by omega
      obtain rfl : k = n := by omega
      go_wp2
      go_ret
      exact ⟨b, a1, c1, rfl, by rw [hb]; exact HP.out, HB.out.more (fun i hi e => by omega)⟩
end Go.Proofs.YtbkkhafckkndfaaGreat
