/-
  The document's own platter: its Store.
-/
import Derived.Test.YtbkkhafckkndfaaGreatPxTRefMem
import Derived.Deep.Cut
namespace Go.Proofs.YtbkkhafckkndfaaGreat
open Go Go.RowKit

set_option maxRecDepth 100000 in
theorem info_st : ∃ (i : TypeInfo) (z : Array Value), (Tryz.prog).info? 66 = some i ∧ i.zero = some (.agg z) ∧ z.size = 2 ∧ i.size = 2 ∧ i.bytes = 24 := ⟨_, _, rfl, rfl, rfl, rfl, rfl⟩
/-- What Store leaves. -/
def RStored (w : World) (base b : Nat) (a1 : Option Addr) (c1 : Nat) (a2 : Option Addr) (R' : Rp) (w' : World) : Prop :=
  ∃ a4 c4, RAt w' base b a1 c1 a4 c4 R' ∧ But (rfoot b a1 a2) w w' ∧ ∀ i, (Value.slice a4 0 0).ownBlock = some i → (Value.slice a2 0 0).ownBlock = some i ∨ w.heap.size ≤ i
/-- Two appends behind one another, from nil on: nothing that was there is written. -/
theorem two_grown {w1 w5 w6 : World} {v5 v6 : Value} {o : Obj} (g5 : w1.grownBy w5 (Value.slice none 0 0).ownBlock) (o5 : v5.ownBlock = (Value.slice none 0 0).ownBlock ∨ v5.ownBlock = some w1.heap.size) (g6 : (w5.alloc o).grownBy w6 v5.ownBlock) (o6 : v6.ownBlock = v5.ownBlock ∨ v6.ownBlock = some (w5.alloc o).heap.size) :
    But (fun _ => False) w1 w6 ∧ ∀ i, v6.ownBlock = some i → w1.heap.size ≤ i := by
  have s5 := g5.size
  have e5 : ∀ i, v5.ownBlock = some i → w1.heap.size ≤ i := by
    intro i e
    rcases o5 with o | o
    · rw [o] at e; cases e
    · rw [o] at e; cases e; exact Nat.le_refl _
  have sa : (w5.alloc o).heap.size = w5.heap.size + 1 := by simp
  refine ⟨⟨(g6.os.trans rfl).trans g5.os, (g6.tape.trans rfl).trans g5.tape, (g6.output.trans rfl).trans g5.output, by have := g6.size; omega, fun i hi _ => ?_⟩, fun i e => ?_⟩
  · rw [g6.block i (by omega) (fun e => by have := e5 i e.symm; omega), Below.heap_alloc _ _ _ (by omega)]
    exact g5.block i hi (fun e => by cases e)
  · rcases o6 with o | o
    · exact e5 i (o ▸ e)
    · rw [o] at e; cases e; omega
section
variable {w : World} {base b c1 c2 : Nat} {a1 a2 : Option Addr} {R : Rp}
theorem RAt.set1 (h : RAt w base b a1 c1 a2 c2 R) {W : World} (G : But (fun _ => False) w W) {a4 : Option Addr} {c4 : Nat} {F : List Wr} (ho : W.ownsRow base 66 2 (.slice a4 F.length c4) F.length (stsV F)) (ok : ({ R with float := F } : Rp).ok) :
    RAt (W.setCell ⟨b, 1, none⟩ (.slice a4 F.length c4)) base b a1 c1 a4 c4 { R with float := F } := by
  have hb := (Array.getElem?_eq_some_iff.1 h.blk).1
  have hblk := (G.block b hb (fun e => e)).trans h.blk
  have G2 : But (fun i => i = b) W (W.setCell ⟨b, 1, none⟩ (.slice a4 F.length c4)) := (But.refl (fun i => i = b) W).set (b := b) rfl 1 none _
  refine ⟨h.lb, ?_, row_but (row_but h.r1 G (fun _ _ e => e)) G2 ?_, row_but ho G2 ?_, ok⟩
  · rw [heap_setCell_same W b 1 _ _ _ hblk]
    rfl
  · rintro i q rfl; exact h.b1 ((own_any _ _ _).symm.trans q) rfl
  · rintro i e rfl
    rcases ho.2 with ⟨q, q2⟩ | ⟨g, c, cur, q, _, hg, _⟩
    · simp at q
      rw [q.1] at e
      cases e
    · rw [q] at e
      obtain rfl : g = i := by simpa [Value.ownBlock] using e
      rw [hblk] at hg
      simp at hg
theorem RAt.setAD (h : RAt w base b a1 c1 a2 c2 R) (d : Bool) (l : Int) (hl : inF l) {W : World} (G : But (fun i => i = b) w W) (hb : W.heap[b]? = some (.cells #[.slice a1 R.last.length c1, .slice a2 R.float.length c2, .bool d, .int .i64 l] 57 (0, 0))) : RAt W base b a1 c1 a2 c2 { R with dead := d, after := l } := by
  refine ⟨h.lb, hb, row_but h.r1 G ?_, row_but h.r2 G ?_, ⟨h.ok.top, h.ok.last, h.ok.float, h.ok.many, hl⟩⟩
  · rintro i q rfl; exact h.b1 ((own_any _ _ _).symm.trans q) rfl
  · rintro i q rfl; exact (h.b2 ((own_any _ _ _).symm.trans q)).1 rfl
theorem RAt.die (h : RAt w base b a1 c1 a2 c2 R) (d : Bool) : RAt (w.setCell ⟨b, 2, none⟩ (.bool d)) base b a1 c1 a2 c2 { R with dead := d } := by
  refine h.setAD (l := R.after) d h.ok.after ((But.refl (fun i => i = b) w).set (b := b) rfl 2 none _) ?_
  rw [heap_setCell_same w b 2 _ _ _ h.blk]
  rfl
theorem RAt.aft (h : RAt w base b a1 c1 a2 c2 R) {l : Int} (hl : inF l) : RAt (w.setCell ⟨b, 3, none⟩ (.int .i64 l)) base b a1 c1 a2 c2 { R with after := l } := by
  refine h.setAD (d := R.dead) (l := l) hl ((But.refl (fun i => i = b) w).set (b := b) rfl 3 none _) ?_
  rw [heap_setCell_same w b 3 _ _ _ h.blk]
  rfl
set_option maxRecDepth 10000 in
set_option maxHeartbeats 4000000 in
theorem rstore_any (h : RAt w base b a1 c1 a2 c2 R) (n : Int) (x : ByteArray) (hm : R.float.length < 1000000) : Calls Tryz.prog 9 #[.pointer (some ⟨b, 0, none⟩), .int .i64 n, .string x] w fun e w' => e = .returned (.int .i64 (storeQ R n x).1) ∧ RStored w base b a1 c1 a2 (storeQ R n x).2 w' := by
  have k0 := h.k0
  have k1 := h.k1
  have k2 := h.k2
  have k3 := h.k3
  have z2 := h.z 2
  have z3 := h.z 3
  go_enter Tryz.func9, Tryz.ntmps9
  by_cases hd : R.dead = true
  · have e : storeQ R n x = (7, R) := by unfold storeQ; rw [if_pos hd]
    rw [e]
    rw [hd] at k2
    go_wp2
    go_ret
    exact ⟨rfl, a2, c2, h, But.refl _ _, fun i e => .inl e⟩
  have hd' : R.dead = false := by simpa using hd
  rw [hd'] at k2
  by_cases hn : 0 ≤ n ∧ n < R.last.length
  rotate_left
  · have e : storeQ R n x = (6, R) := by unfold storeQ; rw [if_neg hd, if_pos hn]
    rw [e]
    by_cases h0 : n < 0
    · go_wp2
      go_ret
      exact ⟨rfl, a2, c2, h, But.refl _ _, fun i e => .inl e⟩
    · have h1 : (R.last.length : Int) ≤ n := by omega
      go_wp2
      go_ret
      exact ⟨rfl, a2, c2, h, But.refl _ _, fun i e => .inl e⟩
  have hn0 : ¬ n < 0 := by omega
  have hn1 : ¬ (R.last.length : Int) ≤ n := by omega
  by_cases hs : x.size = 128
  rotate_left
  · have e : storeQ R n x = (9, R) := by unfold storeQ; rw [if_neg hd, if_neg (not_not_intro hn), if_pos hs]
    have hs' : ((x.size : Int) != 128) = true := by simp; omega
    rw [e]
    go_wp2
    go_ret
    exact ⟨rfl, a2, c2, h, But.refl _ _, fun i e => .inl e⟩
  have hs' : ((x.size : Int) != 128) = false := by simp; omega
  by_cases hl : R.after = 0
  · have e : storeQ R n x = (7, { R with dead := true }) := by unfold storeQ; rw [if_neg hd, if_neg (not_not_intro hn), if_neg (not_not_intro hs), if_pos hl]
    have hD : RAt (w.setCell ⟨b, 2, none⟩ (.bool true)) base b a1 c1 a2 c2 ⟨R.last, R.float, true, 0⟩ := by
      have := h.die true
      rw [hl] at this
      exact this
    have e2 : ({ R with dead := true } : Rp) = ⟨R.last, R.float, true, 0⟩ := by rw [← hl]
    rw [e, e2]
    rw [hl] at k3
    clear e e2
    go_wp2
    go_ret
    exact ⟨rfl, a2, c2, hD, (But.refl (rfoot b a1 a2) w).set (b := b) (.inl rfl) 2 none _, fun i e => .inl e⟩
  obtain ⟨k, rfl⟩ := Int.eq_ofNat_of_zero_le hn.1
  obtain ⟨iw, zw, i1, i2, i3, i4, i5⟩ := info_st
  have e : storeQ R k x = (0, { R with float := R.float ++ [⟨k, x⟩], after := if 0 < R.after then R.after - 1 else R.after }) := by
    unfold storeQ
    rw [if_neg hd, if_neg (not_not_intro hn), if_neg (not_not_intro hs), if_neg hl]
    simp
  have hl' : (R.after == 0) = false := by simpa using hl
  have hin := h.ok.after
  obtain ⟨hin1, hin2⟩ := hin
  rw [e]
  clear e
  by_cases hp : 0 < R.after
  · have hw : wrap64 (R.after - 1) = R.after - 1 := IntWalk.wrap64_in _ ⟨by omega, by omega⟩
    rw [if_pos hp]
    obtain ⟨W1, hW1⟩ : ∃ W1, W1 = (w.setCell ⟨b, 3, none⟩ (.int .i64 (R.after - 1))) := ⟨_, rfl⟩
    have hR1 : Hid (RAt W1 base b a1 c1 a2 c2 ⟨R.last, R.float, R.dead, R.after - 1⟩) := by rw [hW1]; exact h.aft ⟨by omega, by omega⟩
    have hB1 : Hid (But (rfoot b a1 a2) w W1) := by rw [hW1]; exact (But.refl (rfoot b a1 a2) w).set (b := b) (.inl rfl) 3 none _
    have hS1 : Hid (w.heap.size ≤ W1.heap.size) := hB1.out.size
    have hrd : Reads W1 a2 (stsV R.float) := by
      obtain ⟨a, c, e, hr⟩ := own_reads hR1.out.r2
      cases e
      exact hr
    have hbase : base ≤ W1.heap.size := Nat.le_trans hR1.out.lb (Nat.le_of_lt (Array.getElem?_eq_some_iff.1 hR1.out.blk).1)
    obtain ⟨F, hF⟩ : ∃ F, F = stsV R.float := ⟨_, rfl⟩
    obtain ⟨m, hmm⟩ : ∃ m, m = R.float.length := ⟨_, rfl⟩
    have hlF : F.length = m * 2 := by rw [hF, hmm]; exact sts_len _
    have hoF : ∀ u ∈ F, u.oneCell' = true := by rw [hF]; exact sts_one _
    rw [← hF] at hrd
    have q1 := hR1.out.k1
    dsimp only at q1
    rw [← hmm] at k1 q1 hm
    replace hF : Hid (F = stsV R.float) := hF
    replace hmm : Hid (m = R.float.length) := hmm
    replace hoF : Hid (∀ u ∈ F, u.oneCell' = true) := hoF
    replace hlF : Hid (F.length = m * 2) := hlF
    replace hrd : Hid (Reads W1 a2 F) := hrd
    have hz : Hid (zw.size = 2) := i3
    clear i3
    go_upto_region 12 with (fail)
    rw [← hW1]
    clear hW1 k0 k1 k2 k3 z2 z3
    go_wp2_with (first
      | (at_builtin; refine wpList_app _ rfl (.const (.slice none 0 0)) (.tmp 53) 55 rfl base 66 iw (.agg zw) 2 24 Tryz.underlying55 i1 i2 i4 i5 hz.out (by decide) (.slice none 0 0) 0 [] rfl (World.ownsRow_nil _ _ _ _) a2 m c2 F rfl hlF.out hrd.out hoF.out (by unfold maxLen; omega) (by omega) hbase ?_; intro v5 w5 hv5 hg5 _ ho5; (rw [Nat.zero_add, List.nil_append] at hv5); obtain ⟨a5, c5, rfl, _⟩ := own_reads hv5; replace hg5 := show Hid _ from hg5; replace ho5 := show Hid _ from ho5; replace hv5 := show Hid _ from hv5)
      | (at_builtin; refine wpList_app _ rfl (.tmp 54) (.tmp 58) 55 rfl base 66 iw (.agg zw) 2 24 Tryz.underlying55 i1 i2 i4 i5 hz.out (by decide) (.slice a5 m c5) m F rfl (World.ownsRow.alloc hv5.out _) (some ⟨w5.heap.size, 0, none⟩) 1 1 [.int .i64 (k : Int), .string x] rfl rfl (.inr ⟨_, _, rfl, fun j u hj => by match j, hj with | 0, hj => (simp at hj; subst hj; simp [go_sem]) | 1, hj => (simp at hj; subst hj; simp [go_sem])⟩) (fun u hu => by simp at hu; rcases hu with rfl | rfl <;> rfl) (by unfold maxLen; omega) (by omega) (by have := hg5.out.size; simp; omega) ?_; intro v6 w6 hv6 hg6 _ ho6; obtain ⟨a6, c6, rfl, _⟩ := own_reads hv6; have hB6 := two_grown hg5.out ho5.out hg6 ho6; have hR6 := hR1.out.but (S := fun _ => False) hB6.1 (fun _ _ e => e); have y1 := hR6.k1; have y2 := hR6.z 1; (dsimp only at y1); replace hR6 := show Hid _ from hR6; replace hB6 := show Hid _ from hB6; replace hv6 := show Hid _ from hv6; clear hg6 ho6)
      | fail)
    go_ret
    have hl2 : (R.float ++ [(⟨k, x⟩ : Wr)]).length = m + 1 := by rw [List.length_append, ← hmm.out]; rfl
    have hok : ({ last := R.last, float := R.float ++ [⟨k, x⟩], dead := R.dead, after := R.after - 1 } : Rp).ok := by
      refine ⟨h.ok.top, h.ok.last, fun y hy => ?_, by show (R.float ++ [(⟨k, x⟩ : Wr)]).length ≤ _; rw [hl2]; omega, ⟨by show _ ≤ R.after - 1; omega, by show R.after - 1 ≤ _; omega⟩⟩
      rcases List.mem_append.1 hy with hy | hy
      · exact h.ok.float y hy
      · obtain rfl : y = ⟨k, x⟩ := by simpa using hy
        exact ⟨by show k < R.last.length; omega, hs⟩
    have hv7 : w6.ownsRow base 66 2 (.slice a6 (R.float ++ [(⟨k, x⟩ : Wr)]).length c6) (R.float ++ [(⟨k, x⟩ : Wr)]).length (stsV (R.float ++ [(⟨k, x⟩ : Wr)])) := by
      rw [hl2, show stsV (R.float ++ [(⟨k, x⟩ : Wr)]) = F ++ [.int .i64 (k : Int), .string x] by rw [hF.out]; simp [stsV, stV]]
      exact hv6.out
    have hD := hR1.out.set1 hB6.out.1 hv7 hok
    rw [hl2] at hD
    dsimp only at hD
    rw [hd'] at hD
    refine ⟨rfl, a6, c6, hD, ?_, fun i e => .inr ?_⟩
    · exact ((hB1.out.trans (hB6.out.1.more (fun _ _ e => e.elim))).set (b := b) (.inl rfl) 1 none _)
    · exact Nat.le_trans hS1.out (hB6.out.2 i ((own_any _ _ _).trans e))
  · skip
    rw [if_neg hp]
    obtain ⟨W1, hW1⟩ : ∃ W1, W1 = w := ⟨_, rfl⟩
    have hR1 : Hid (RAt W1 base b a1 c1 a2 c2 ⟨R.last, R.float, R.dead, R.after⟩) := by rw [hW1]; exact h
    have hB1 : Hid (But (rfoot b a1 a2) w W1) := by rw [hW1]; exact But.refl _ _
    have hS1 : Hid (w.heap.size ≤ W1.heap.size) := hB1.out.size
    have hrd : Reads W1 a2 (stsV R.float) := by
      obtain ⟨a, c, e, hr⟩ := own_reads hR1.out.r2
      cases e
      exact hr
    have hbase : base ≤ W1.heap.size := Nat.le_trans hR1.out.lb (Nat.le_of_lt (Array.getElem?_eq_some_iff.1 hR1.out.blk).1)
    obtain ⟨F, hF⟩ : ∃ F, F = stsV R.float := ⟨_, rfl⟩
    obtain ⟨m, hmm⟩ : ∃ m, m = R.float.length := ⟨_, rfl⟩
    have hlF : F.length = m * 2 := by rw [hF, hmm]; exact sts_len _
    have hoF : ∀ u ∈ F, u.oneCell' = true := by rw [hF]; exact sts_one _
    rw [← hF] at hrd
    have q1 := hR1.out.k1
    dsimp only at q1
    rw [← hmm] at k1 q1 hm
    replace hF : Hid (F = stsV R.float) := hF
    replace hmm : Hid (m = R.float.length) := hmm
    replace hoF : Hid (∀ u ∈ F, u.oneCell' = true) := hoF
    replace hlF : Hid (F.length = m * 2) := hlF
    replace hrd : Hid (Reads W1 a2 F) := hrd
    have hz : Hid (zw.size = 2) := i3
    clear i3
    go_upto_region 12 with (fail)
    rw [← hW1]
    clear hW1 k0 k1 k2 k3 z2 z3
    go_wp2_with (first
      | (at_builtin; refine wpList_app _ rfl (.const (.slice none 0 0)) (.tmp 53) 55 rfl base 66 iw (.agg zw) 2 24 Tryz.underlying55 i1 i2 i4 i5 hz.out (by decide) (.slice none 0 0) 0 [] rfl (World.ownsRow_nil _ _ _ _) a2 m c2 F rfl hlF.out hrd.out hoF.out (by unfold maxLen; omega) (by omega) hbase ?_; intro v5 w5 hv5 hg5 _ ho5; (rw [Nat.zero_add, List.nil_append] at hv5); obtain ⟨a5, c5, rfl, _⟩ := own_reads hv5; replace hg5 := show Hid _ from hg5; replace ho5 := show Hid _ from ho5; replace hv5 := show Hid _ from hv5)
      | (at_builtin; refine wpList_app _ rfl (.tmp 54) (.tmp 58) 55 rfl base 66 iw (.agg zw) 2 24 Tryz.underlying55 i1 i2 i4 i5 hz.out (by decide) (.slice a5 m c5) m F rfl (World.ownsRow.alloc hv5.out _) (some ⟨w5.heap.size, 0, none⟩) 1 1 [.int .i64 (k : Int), .string x] rfl rfl (.inr ⟨_, _, rfl, fun j u hj => by match j, hj with | 0, hj => (simp at hj; subst hj; simp [go_sem]) | 1, hj => (simp at hj; subst hj; simp [go_sem])⟩) (fun u hu => by simp at hu; rcases hu with rfl | rfl <;> rfl) (by unfold maxLen; omega) (by omega) (by have := hg5.out.size; simp; omega) ?_; intro v6 w6 hv6 hg6 _ ho6; obtain ⟨a6, c6, rfl, _⟩ := own_reads hv6; have hB6 := two_grown hg5.out ho5.out hg6 ho6; have hR6 := hR1.out.but (S := fun _ => False) hB6.1 (fun _ _ e => e); have y1 := hR6.k1; have y2 := hR6.z 1; (dsimp only at y1); replace hR6 := show Hid _ from hR6; replace hB6 := show Hid _ from hB6; replace hv6 := show Hid _ from hv6; clear hg6 ho6)
      | fail)
    go_ret
    have hl2 : (R.float ++ [(⟨k, x⟩ : Wr)]).length = m + 1 := by rw [List.length_append, ← hmm.out]; rfl
    have hok : ({ last := R.last, float := R.float ++ [⟨k, x⟩], dead := R.dead, after := R.after } : Rp).ok := by
      refine ⟨h.ok.top, h.ok.last, fun y hy => ?_, by show (R.float ++ [(⟨k, x⟩ : Wr)]).length ≤ _; rw [hl2]; omega, ⟨by show _ ≤ R.after; omega, by show R.after ≤ _; omega⟩⟩
      rcases List.mem_append.1 hy with hy | hy
      · exact h.ok.float y hy
      · obtain rfl : y = ⟨k, x⟩ := by simpa using hy
        exact ⟨by show k < R.last.length; omega, hs⟩
    have hv7 : w6.ownsRow base 66 2 (.slice a6 (R.float ++ [(⟨k, x⟩ : Wr)]).length c6) (R.float ++ [(⟨k, x⟩ : Wr)]).length (stsV (R.float ++ [(⟨k, x⟩ : Wr)])) := by
      rw [hl2, show stsV (R.float ++ [(⟨k, x⟩ : Wr)]) = F ++ [.int .i64 (k : Int), .string x] by rw [hF.out]; simp [stsV, stV]]
      exact hv6.out
    have hD := hR1.out.set1 hB6.out.1 hv7 hok
    rw [hl2] at hD
    dsimp only at hD
    rw [hd'] at hD
    refine ⟨rfl, a6, c6, hD, ?_, fun i e => .inr ?_⟩
    · exact ((hB1.out.trans (hB6.out.1.more (fun _ _ e => e.elim))).set (b := b) (.inl rfl) 1 none _)
    · exact Nat.le_trans hS1.out (hB6.out.2 i ((own_any _ _ _).trans e))
end
end Go.Proofs.YtbkkhafckkndfaaGreat
