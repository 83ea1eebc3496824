/-
  What package platter's Store does at a platter that lies in memory.
-/
import Derived.Test.YtbkkhafckkndfaaGreatPk01
import Derived.Test.YtbkkhafckkndfaaGreatPxTBuild
import Derived.Test.YtbkkhafckkndfaaGreatPk02
import Derived.Deep.RegionLaw
import Derived.Deep.Cut
namespace Go.Proofs.YtbkkhafckkndfaaGreat
open Go Go.RowKit

section
variable {w : World} {base b g1 c1 g2 c2 c3 : Nat} {a3 : Option Addr} {P : Pl}
theorem PAt.putNow (h : PAt w base b g1 c1 g2 c2 a3 c3 P) {k : Nat} (hk : k < P.now.length) {x : ByteArray} (hx : x.size = 128) : PAt (w.setCells g1 (k * 128) (pgV x)) base b g1 c1 g2 c2 a3 c3 { P with now := P.now.set k x } := by
  have G : But (fun i => i = g1) w (w.setCells g1 (k * 128) (pgV x)) := but_setCells (S := fun i => i = g1) rfl _ _ (But.refl _ _)
  have hb := (Array.getElem?_eq_some_iff.1 h.blk).1
  have hl : (pgV x).length = 128 := by rw [pgV_len, hx]
  have r1 := own_setCells (pgV x) (k * 128) h.r1
  rw [pages_set P.now h.ok.now hk x (pgV x) (Nat.le_of_eq hl) (by rw [List.drop_of_length_le (by rw [pgV_len, hl, h.ok.now _ (pg_mem hk)]; exact Nat.le_refl _)]; simp)] at r1
  have el : (P.now.set k x).length = P.now.length := List.length_set
  refine ⟨h.lb, ?_, ?_, ?_, row_but h.r3 G ?_, h.ap, ⟨by simpa using h.ok.len, by simpa using h.ok.pos, by simpa using h.ok.top, ?_, h.ok.last, ?_, h.ok.many, h.ok.left⟩⟩
  · show _ = some (Obj.cells #[.slice _ (P.now.set k x).length _, .slice _ (P.now.set k x).length _, _, _, _] _ _)
    rw [el]
    exact (G.block b hb (fun e => h.b1 e.symm)).trans h.blk
  · show World.ownsRow _ _ _ _ (.slice _ (P.now.set k x).length _) (P.now.set k x).length _
    rw [el]; exact r1
  · show World.ownsRow _ _ _ _ (.slice _ (P.now.set k x).length _) (P.now.set k x).length _
    rw [el]
    exact row_but h.r2 G (by rintro i e; cases e; exact fun e => h.ap e.symm)
  · rintro i e; exact (h.b3 ((own_any _ _ _).symm.trans e)).2.1
  · intro y hy
    rcases List.mem_or_eq_of_mem_set hy with hy | rfl
    · exact h.ok.now y hy
    · exact hx
  · intro y hy
    show y.n < (P.now.set k x).length ∧ _
    rw [el]; exact h.ok.float y hy
theorem PAt.more (h : PAt w base b g1 c1 g2 c2 a3 c3 P) {W : World} {a4 : Option Addr} {c4 : Nat} {x : Wr} (G : But (fun i => (Value.slice a3 0 0).ownBlock = some i) w W)
    (ho : W.ownsRow base 64 129 (.slice a4 (P.float.length + 1) c4) (P.float.length + 1) (wrsV P.float ++ wrV x)) (hx : x.n < P.now.length ∧ x.b.size = 128) (hm : P.float.length < 1000000) :
    PAt (W.setCell ⟨b, 2, none⟩ (.slice a4 (P.float.length + 1) c4)) base b g1 c1 g2 c2 a4 c4 { P with float := P.float ++ [x] } := by
  have hb := (Array.getElem?_eq_some_iff.1 h.blk).1
  have h3 := fun i hi => h.b3 (i := i) hi
  have hblk := (G.block b hb (fun e => (h3 _ e).1 rfl)).trans h.blk
  have G2 : But (fun i => i = b) W (W.setCell ⟨b, 2, none⟩ (.slice a4 (P.float.length + 1) c4)) := (But.refl (fun i => i = b) W).set (b := b) rfl 2 none _
  have el : (P.float ++ [x]).length = P.float.length + 1 := by simp
  have hob : ∀ i, (Value.slice a4 (P.float.length + 1) c4).ownBlock = some i → i ≠ b := by
    rintro i e rfl
    rcases ho.2 with ⟨q, q2⟩ | ⟨g, c, cur, q, _, hg, _⟩
    · omega
    · rw [q] at e
      obtain rfl : g = i := by simpa [Value.ownBlock] using e
      rw [hblk] at hg
      simp at hg
  refine ⟨h.lb, ?_, row_but (row_but h.r1 G ?_) G2 ?_, row_but (row_but h.r2 G ?_) G2 ?_, ?_, h.ap, ⟨h.ok.len, h.ok.pos, h.ok.top, h.ok.now, h.ok.last, ?_, by rw [el]; omega, h.ok.left⟩⟩
  · rw [heap_setCell_same W b 2 _ _ _ hblk]
    show _ = some (Obj.cells #[_, _, .slice _ (P.float ++ [x]).length _, _, _] _ _)
    rw [el]
    rfl
  · rintro i e; cases e; exact fun e => (h3 _ e).2.1 rfl
  · rintro i e; cases e; exact h.b1
  · rintro i e; cases e; exact fun e => (h3 _ e).2.2 rfl
  · rintro i e; cases e; exact h.b2
  · show World.ownsRow _ _ _ _ (.slice _ (P.float ++ [x]).length _) (P.float ++ [x]).length _
    rw [el, show wrsV (P.float ++ [x]) = wrsV P.float ++ wrV x by simp [wrsV]]
    exact row_but ho G2 hob
  · intro y hy
    rcases List.mem_append.1 hy with hy | hy
    · exact h.ok.float y hy
    · obtain rfl : y = x := by simpa using hy
      exact hx
end

/-- What Store leaves. -/
def Stored (w : World) (base b g1 c1 g2 c2 : Nat) (a3 : Option Addr) (P' : Pl) (w' : World) : Prop :=
  ∃ a4 c4, PAt w' base b g1 c1 g2 c2 a4 c4 P' ∧ But (foot b g1 g2 a3) w w' ∧ ∀ i, (Value.slice a4 0 0).ownBlock = some i → (Value.slice a3 0 0).ownBlock = some i ∨ w.heap.size ≤ i

section
variable {w : World} {base b g1 c1 g2 c2 c3 : Nat} {a3 : Option Addr} {P : Pl}
theorem store_no (h : PAt w base b g1 c1 g2 c2 a3 c3 P) (n : Int) (x : ByteArray) (hc : P.dead = true ∨ ¬ (0 ≤ n ∧ n < P.now.length) ∨ ¬ x.size = 128 ∨ P.left = 0) :
    Calls Tryz.prog 8 #[.pointer (some ⟨b, 0, none⟩), .int .i64 n, .string x] w fun e w' => e = .returned (.int .i64 (storeP P n x).1) ∧ Stored w base b g1 c1 g2 c2 a3 (storeP P n x).2 w' := by
  have k3 := h.k3
  have k4 := h.k4
  have z4 := h.z 4
  go_enter Tryz.func8, Tryz.ntmps8
  by_cases hd : P.dead = true
  · have e : storeP P n x = (7, P) := by unfold storeP; rw [if_pos hd]
    have hd' := hd
    rw [e]
    go_wp2_with (first
      | (go_at_call 18; go_fit (halted_any h); rintro e w' ⟨rfl, rfl⟩; rw [hd'])
      | (go_at_call 19; go_fit (has_any h n); rintro e w' ⟨rfl, rfl⟩; rw [hdec]))
    go_ret
    exact ⟨rfl, a3, c3, h, But.refl _ _, fun i e => .inl e⟩
  have hd' : P.dead = false := by simpa using hd
  by_cases hn : 0 ≤ n ∧ n < P.now.length
  · have hdec : decide (0 ≤ n ∧ n < P.now.length) = true := by simpa using hn
    by_cases hs : x.size = 128
    · have hl : P.left = 0 := by
        rcases hc with h | h | h | h
        · exact absurd h hd
        · exact absurd hn h
        · exact absurd hs h
        · exact h
      have e : storeP P n x = (7, { P with dead := true }) := by unfold storeP; rw [if_neg hd, if_neg (not_not_intro hn), if_neg (not_not_intro hs), if_pos hl]
      rw [e]
      rw [hl] at k3
      have hs' : ((x.size : Int) != 128) = false := by simp; omega
      go_wp2_with (first
      | (go_at_call 18; go_fit (halted_any h); rintro e w' ⟨rfl, rfl⟩; rw [hd'])
      | (go_at_call 19; go_fit (has_any h n); rintro e w' ⟨rfl, rfl⟩; rw [hdec]))
      go_ret
      exact ⟨rfl, a3, c3, (show ({ P with dead := true } : Pl) = ⟨P.now, P.last, P.float, 0, true⟩ by rw [← hl]) ▸ h.die true, (But.refl (foot b g1 g2 a3) w').set (b := b) (.inl rfl) 4 none _, fun i e => .inl e⟩
    · have e : storeP P n x = (9, P) := by unfold storeP; rw [if_neg hd, if_neg (not_not_intro hn), if_pos hs]
      have hs' : ((x.size : Int) != 128) = true := by simp; omega
      rw [e]
      go_wp2_with (first
      | (go_at_call 18; go_fit (halted_any h); rintro e w' ⟨rfl, rfl⟩; rw [hd'])
      | (go_at_call 19; go_fit (has_any h n); rintro e w' ⟨rfl, rfl⟩; rw [hdec]))
      go_ret
      exact ⟨rfl, a3, c3, h, But.refl _ _, fun i e => .inl e⟩
  · have e : storeP P n x = (6, P) := by unfold storeP; rw [if_neg hd, if_pos hn]
    have hdec : decide (0 ≤ n ∧ n < P.now.length) = false := by simpa using hn
    rw [e]
    go_wp2_with (first
      | (go_at_call 18; go_fit (halted_any h); rintro e w' ⟨rfl, rfl⟩; rw [hd'])
      | (go_at_call 19; go_fit (has_any h n); rintro e w' ⟨rfl, rfl⟩; rw [hdec]))
    go_ret
    exact ⟨rfl, a3, c3, h, But.refl _ _, fun i e => .inl e⟩
set_option maxRecDepth 10000 in
set_option maxHeartbeats 4000000 in
/-- Store where it is not refused. -/
theorem store_yes (h : PAt w base b g1 c1 g2 c2 a3 c3 P) (k : Nat) (x : ByteArray) (hd' : P.dead = false) (hk : k < P.now.length) (hs : x.size = 128) (hl : P.left ≠ 0) (hm : P.float.length < 1000000) (hbase : base ≤ w.heap.size) :
    Calls Tryz.prog 8 #[.pointer (some ⟨b, 0, none⟩), .int .i64 (k : Int), .string x] w fun e w' => e = .returned (.int .i64 (storeP P k x).1) ∧ Stored w base b g1 c1 g2 c2 a3 (storeP P k x).2 w' := by
  have e : storeP P k x = (0, { P with now := P.now.set k x, float := P.float ++ [⟨k, x⟩], left := if 0 < P.left then P.left - 1 else P.left }) := by
    unfold storeP
    rw [if_neg (by rw [hd']; decide), if_neg (not_not_intro ⟨by omega, by omega⟩), if_neg (not_not_intro hs), if_neg hl]
    simp
  rw [e]
  clear e
  have hn : 0 ≤ (k : Int) ∧ (k : Int) < P.now.length := ⟨by omega, by omega⟩
  have hdec : decide (0 ≤ (k : Int) ∧ (k : Int) < P.now.length) = true := by simpa using hn
  have k0 := h.k0
  have k3 := h.k3
  have z3 := h.z 3
  have hs' : ((x.size : Int) != 128) = false := by simp; omega
  have hl' : (P.left == 0) = false := by simpa using hl
  have hin := h.ok.left
  obtain ⟨hin1, hin2⟩ := hin
  obtain ⟨iw, zw, i1, i2, i3, i4, i5⟩ := infoWr
-- REGION
  by_cases hp : 0 < P.left
  · have hw : wrap64 (P.left - 1) = P.left - 1 := IntWalk.wrap64_in _ ⟨by omega, by omega⟩
    have hP1 : PAt (w.setCell ⟨b, 3, none⟩ (.int .i64 (P.left - 1))) base b g1 c1 g2 c2 a3 c3 { P with left := P.left - 1 } := h.left ⟨by omega, by omega⟩
    rw [if_pos hp]
    go_enter Tryz.func8, Tryz.ntmps8
    go_upto_region 12 with (first
      | (go_at_call 18; go_fit (halted_any h); rintro e w' ⟨rfl, rfl⟩; rw [hd'])
      | (go_at_call 19; go_fit (has_any h (k : Int)); rintro e w' ⟨rfl, rfl⟩; rw [hdec]))
    generalize hW1 : w'.setCell ⟨b, 3, none⟩ (.int .i64 (P.left - 1)) = W1 at *
    have hB1 : Hid (But (foot b g1 g2 a3) w' W1) := by rw [← hW1]; exact (But.refl (foot b g1 g2 a3) w').set (b := b) (.inl rfl) 3 none _
    clear hW1
    clear k0 k3 z3 hs'
    have q0 := hP1.k0
    have q2 := hP1.k2
    have ht : W1.there g1 (k * 128) x.size := own_there hP1.r1 _ _ (by show k * 128 + x.size ≤ P.now.length * 128; omega)
    go_upto_region 13 with (first
      | (refine wpList_copy_str rfl (.tmp 42) (.tmp 43) 60 9 rfl 5 Tryz.underlying60 (by kernel_rfl) g1 (k * 128) 128 x (by rw [hs]; rfl) rfl ht ?_)
      | fail)
    have hP2' := hP1.putNow (k := k) hk hs
    have hB2 : Hid (But (foot b g1 g2 a3) w' (W1.setCells g1 (k * 128) (pgV x))) := but_setCells (.inr (.inl rfl)) _ _ hB1.out
    generalize W1.setCells g1 (k * 128) (pgV x) = W2 at *
    clear q0 q2 ht hP1 hB1
    obtain ⟨P2, e2⟩ : ∃ Q : Pl, Q = ⟨P.now.set k x, P.last, P.float, P.left - 1, P.dead⟩ := ⟨_, rfl⟩
    have hP2 : PAt W2 base b g1 c1 g2 c2 a3 c3 P2 := by rw [e2]; exact hP2'
    have hk2 : k < P2.now.length := by rw [e2]; simpa using hk
    have hk3 : (k : Int) < P2.now.length := by omega
    have hg2 : pg P2.now k = x := by rw [e2]; simp [pg, List.getD, hk]
    have hm2 : P2.float.length < 1000000 := by rw [e2]; exact hm
    clear hP2'
    replace e2 : Hid (P2 = ⟨P.now.set k x, P.last, P.float, P.left - 1, P.dead⟩) := e2
    simp only [Act.put, List.setIfInBounds_toArray, List.set_cons_zero, List.set_cons_succ]
    refine lat_region (A := (fun _ => True)) (S := (fun w' => PAt w' base b g1 c1 g2 c2 a3 c3 P2)) [18] (by kernel_rfl) ?_ (fun hH0 => ?_)
    · exact ⟨trivial, hP2.but (S := fun _ => False) (Grew.but ((Grew.refl W2).drew)) (fun _ _ e => e)⟩
    refine lat_free (i := 0) (oi := { dst := some 45, op := Go.Op.move (Go.Operand.tmp 0), type := 24, pos := "platter.go:68", after := #[], guard := none }) (v := ?va1) rfl (by kernel_rfl) (by kernel_rfl) (by kernel_rfl) (by kernel_rfl) (fun _ _ _ h => h) (Or.inl ⟨by rfl, ?hya1⟩) ⟨hH0.1, fun _ => hH0.2⟩ ?resta1
    case hya1 => (intro w hAw; skip; go_simp; try (with_reducible rfl))
    simp only [Act.put, List.setIfInBounds_toArray, List.set_cons_zero, List.set_cons_succ]
    refine lat_free (i := 1) (oi := { dst := some 46, op := Go.Op.move (Go.Operand.tmp 0), type := 24, pos := "platter.go:68", after := #[], guard := none }) (v := ?va2) rfl (by kernel_rfl) (by kernel_rfl) (by kernel_rfl) (by kernel_rfl) (fun _ _ _ h => h) (Or.inl ⟨by rfl, ?hya2⟩) ⟨hH0.1, fun _ => hH0.2⟩ ?resta2
    case hya2 => (intro w hAw; skip; go_simp; try (with_reducible rfl))
    simp only [Act.put, List.setIfInBounds_toArray, List.set_cons_zero, List.set_cons_succ]
    refine lat_free (i := 2) (oi := { dst := some 47, op := Go.Op.nilCheck (Go.Operand.tmp 46), type := 0, pos := "platter.go:68", after := #[{ on := 1, ground := Go.Ground.data }], guard := none }) (v := ?va3) rfl (by kernel_rfl) (by kernel_rfl) (by kernel_rfl) (by kernel_rfl) (fun _ _ _ h => h) (Or.inl ⟨by rfl, ?hya3⟩) ⟨hH0.1, fun _ => hH0.2⟩ ?resta3
    case hya3 => (intro w hAw; skip; go_simp; try (with_reducible rfl))
    simp only [Act.put, List.setIfInBounds_toArray, List.set_cons_zero, List.set_cons_succ]
    refine lat_free (i := 3) (oi := { dst := some 48, op := Go.Op.fieldAddr 54 (Go.Operand.tmp 47) 2, type := 0, pos := "platter.go:68", after := #[{ on := 2, ground := Go.Ground.data }], guard := none }) (v := ?va4) rfl (by kernel_rfl) (by kernel_rfl) (by kernel_rfl) (by kernel_rfl) (fun _ _ _ h => h) (Or.inl ⟨by rfl, ?hya4⟩) ⟨hH0.1, fun _ => hH0.2⟩ ?resta4
    case hya4 => (intro w hAw; skip; go_simp; try (with_reducible rfl))
    simp only [Act.put, List.setIfInBounds_toArray, List.set_cons_zero, List.set_cons_succ]
    refine lat_take (i := 4) (oi := { dst := some 49, op := Go.Op.load 52 (Go.Operand.tmp 48), type := 52, pos := "platter.go:68", after := #[{ on := 3, ground := Go.Ground.data }], guard := none }) (v := ?va5) rfl (by kernel_rfl) (by kernel_rfl) (by kernel_rfl) (by kernel_rfl) (by kernel_rfl) (fun _ _ _ h => h) (Or.inl ⟨by rfl, ?hya5⟩) hH0 ?resta5
    case hya5 => (intro w hSw; have q0 := hSw.k0; have q2 := hSw.k2; go_simp; try (with_reducible rfl))
    simp only [Act.put, List.setIfInBounds_toArray, List.set_cons_zero, List.set_cons_succ]
    refine lat_free (i := 5) (oi := { dst := some 50, op := Go.Op.move (Go.Operand.tmp 1), type := 3, pos := "platter.go:68", after := #[], guard := none }) (v := ?va6) rfl (by kernel_rfl) (by kernel_rfl) (by kernel_rfl) (by kernel_rfl) (fun _ _ _ h => h) (Or.inl ⟨by rfl, ?hya6⟩) ⟨hH0.1, fun _ => hH0.2⟩ ?resta6
    case hya6 => (intro w hAw; skip; go_simp; try (with_reducible rfl))
    simp only [Act.put, List.setIfInBounds_toArray, List.set_cons_zero, List.set_cons_succ]
    refine lat_free (i := 6) (oi := { dst := some 51, op := Go.Op.move (Go.Operand.tmp 0), type := 24, pos := "platter.go:68", after := #[], guard := none }) (v := ?va7) rfl (by kernel_rfl) (by kernel_rfl) (by kernel_rfl) (by kernel_rfl) (fun _ _ _ h => h) (Or.inl ⟨by rfl, ?hya7⟩) ⟨hH0.1, fun _ => hH0.2⟩ ?resta7
    case hya7 => (intro w hAw; skip; go_simp; try (with_reducible rfl))
    simp only [Act.put, List.setIfInBounds_toArray, List.set_cons_zero, List.set_cons_succ]
    refine lat_free (i := 7) (oi := { dst := some 52, op := Go.Op.nilCheck (Go.Operand.tmp 51), type := 0, pos := "platter.go:68", after := #[{ on := 6, ground := Go.Ground.data }], guard := none }) (v := ?va8) rfl (by kernel_rfl) (by kernel_rfl) (by kernel_rfl) (by kernel_rfl) (fun _ _ _ h => h) (Or.inl ⟨by rfl, ?hya8⟩) ⟨hH0.1, fun _ => hH0.2⟩ ?resta8
    case hya8 => (intro w hAw; skip; go_simp; try (with_reducible rfl))
    simp only [Act.put, List.setIfInBounds_toArray, List.set_cons_zero, List.set_cons_succ]
    refine lat_free (i := 8) (oi := { dst := some 53, op := Go.Op.fieldAddr 54 (Go.Operand.tmp 52) 0, type := 0, pos := "platter.go:68", after := #[{ on := 7, ground := Go.Ground.data }], guard := none }) (v := ?va9) rfl (by kernel_rfl) (by kernel_rfl) (by kernel_rfl) (by kernel_rfl) (fun _ _ _ h => h) (Or.inl ⟨by rfl, ?hya9⟩) ⟨hH0.1, fun _ => hH0.2⟩ ?resta9
    case hya9 => (intro w hAw; skip; go_simp; try (with_reducible rfl))
    simp only [Act.put, List.setIfInBounds_toArray, List.set_cons_zero, List.set_cons_succ]
    refine lat_take (i := 9) (oi := { dst := some 54, op := Go.Op.load 51 (Go.Operand.tmp 53), type := 51, pos := "platter.go:68", after := #[{ on := 8, ground := Go.Ground.data }], guard := none }) (v := ?va10) rfl (by kernel_rfl) (by kernel_rfl) (by kernel_rfl) (by kernel_rfl) (by kernel_rfl) (fun _ _ _ h => h) (Or.inl ⟨by rfl, ?hya10⟩) hH0 ?resta10
    case hya10 => (intro w hSw; have q0 := hSw.k0; have q2 := hSw.k2; go_simp; try (with_reducible rfl))
    simp only [Act.put, List.setIfInBounds_toArray, List.set_cons_zero, List.set_cons_succ]
    refine lat_free (i := 10) (oi := { dst := some 55, op := Go.Op.move (Go.Operand.tmp 1), type := 3, pos := "platter.go:68", after := #[], guard := none }) (v := ?va11) rfl (by kernel_rfl) (by kernel_rfl) (by kernel_rfl) (by kernel_rfl) (fun _ _ _ h => h) (Or.inl ⟨by rfl, ?hya11⟩) ⟨hH0.1, fun _ => hH0.2⟩ ?resta11
    case hya11 => (intro w hAw; skip; go_simp; try (with_reducible rfl))
    simp only [Act.put, List.setIfInBounds_toArray, List.set_cons_zero, List.set_cons_succ]
    refine lat_free (i := 11) (oi := { dst := some 56, op := Go.Op.indexAddr 51 (Go.Operand.tmp 54) (Go.Operand.tmp 55), type := 0, pos := "platter.go:68", after := #[{ on := 9, ground := Go.Ground.data }, { on := 10, ground := Go.Ground.data }], guard := none }) (v := ?va12) rfl (by kernel_rfl) (by kernel_rfl) (by kernel_rfl) (by kernel_rfl) (fun _ _ _ h => h) (Or.inl ⟨by rfl, ?hya12⟩) ⟨hH0.1, fun _ => hH0.2⟩ ?resta12
    case hya12 => (intro w hAw; skip; go_simp; try (with_reducible rfl))
    simp only [Act.put, List.setIfInBounds_toArray, List.set_cons_zero, List.set_cons_succ]
    refine lat_take (i := 12) (oi := { dst := some 57, op := Go.Op.load 62 (Go.Operand.tmp 56), type := 62, pos := "platter.go:68", after := #[{ on := 11, ground := Go.Ground.data }], guard := none }) rfl (by kernel_rfl) (by kernel_rfl) (by kernel_rfl) (by kernel_rfl) (by kernel_rfl) (fun _ _ _ h => h) (yieldsIf_load_mid (by rfl) 62 (.tmp 56) rfl g1 (k * 128) rfl (pgV x) _ (fun w hSw => by have := hSw.page hk2; rw [hg2] at this; exact this) Tryz.underlying62 rfl (by rw [pgV_len, hs]; kernel_rfl)) hH0 ?resta13
    simp only [Act.put, List.setIfInBounds_toArray, List.set_cons_zero, List.set_cons_succ]
    refine lat_free (i := 13) (oi := { dst := some 58, op := Go.Op.build 64 #[(0, Go.Operand.tmp 50), (1, Go.Operand.tmp 57)], type := 64, pos := "platter.go:68", after := #[{ on := 5, ground := Go.Ground.data }, { on := 12, ground := Go.Ground.data }], guard := none }) rfl (by kernel_rfl) (by kernel_rfl) (by kernel_rfl) (by kernel_rfl) (fun _ _ _ h => h) (yields_buildWr (by rfl) (.tmp 50) (.tmp 57) rfl (k : Int) x rfl rfl hs) ⟨hH0.1, fun _ => hH0.2⟩ ?resta14
    simp only [Act.put, List.setIfInBounds_toArray, List.set_cons_zero, List.set_cons_succ]
    refine lat_one (i := 14) (by kernel_rfl) ?_
    refine lat_run (o := { dst := some 59, op := Go.Op.buildSlice 52 1 #[(0, Go.Operand.tmp 58)], type := 52, pos := "platter.go:68", after := #[{ on := 13, ground := Go.Ground.data }], guard := none }) rfl (fun K hK => ?_)
    refine step_buildWrs rfl (.tmp 58) rfl (.int .i64 (k : Int) :: pgV x) rfl (by simp [pgV_len, hs]) ?_
    have hP3 : Hid (PAt (W2.drew.alloc (.cells (.int .i64 (k : Int) :: pgV x).toArray 64)) base b g1 c1 g2 c2 a3 c3 P2) := hP2.but (S := fun _ => False) (Grew.but (((Grew.refl W2).drew).alloc _ _)) (fun _ _ e => e)
    have hG3 : Hid (Grew W2 (W2.drew.alloc (.cells (.int .i64 (k : Int) :: pgV x).toArray 64))) := ((Grew.refl W2).drew).alloc _ _
    have hN3 : Hid (Reads (W2.drew.alloc (.cells (.int .i64 (k : Int) :: pgV x).toArray 64)) (some ⟨W2.drew.heap.size, 0, none⟩) (wrV ⟨k, x⟩)) := .inr ⟨_, 0, rfl, fun j u hj => by rw [cell_of_row _ _ _ _ _ _ (heap_alloc_new _ _), Nat.zero_add]; simpa [wrV] using hj⟩
    generalize W2.drew.alloc (.cells (.int .i64 (k : Int) :: pgV x).toArray 64) = W3 at *
    simp only [Act.put, List.setIfInBounds_toArray, List.set_cons_zero, List.set_cons_succ]
    refine hK.out _ _ (⟨trivial, hP3.out⟩) (fun hHa15 => ?_)
    clear hK K
    refine lat_one (i := 15) (by kernel_rfl) ?_
    refine lat_run (o := { dst := some 60, op := Go.Op.call { callee := Go.Callee.builtin Go.Builtin.append, args := #[Go.Operand.tmp 49, Go.Operand.tmp 59], argTypes := #[52, 52] }, type := 52, pos := "platter.go:68", after := #[{ on := 4, ground := Go.Ground.data }, { on := 14, ground := Go.Ground.data }], guard := none }) rfl (fun K hK => ?_)
    refine step_app _ (by rfl) (.tmp 49) (.tmp 59) 52 (by rfl) base 64 iw (.agg zw) 129 136 Tryz.underlying52 i1 i2 i4 i5 (by show zw.size = 129; rw [← Array.length_toList, i3]; simp) (by decide) (.slice a3 P2.float.length c3) P2.float.length (wrsV P2.float) (by rfl) hP3.out.r3 (some ⟨W2.drew.heap.size, 0, none⟩) 1 1 (wrV ⟨k, x⟩) (by rfl) (by rw [wrV_len]; show 1 + x.size = 1 * 129; omega) hN3.out (wrV_one _) (by unfold maxLen; omega) (by omega) (by have := hG3.out.size; have := hP2.bg b (.inl rfl); omega) ?_
    intro v4 W4 hv4 hg4 hk4 hl4
    obtain ⟨a4, c4, rfl, _⟩ := own_reads hv4
    have hB4 : Hid (But (fun i => (Value.slice a3 0 0).ownBlock = some i) W2 W4) := ⟨hg4.os.trans hG3.out.grown.1.1, hg4.tape.trans hG3.out.tape, hg4.output.trans hG3.out.grown.1.2.1, Nat.le_trans hG3.out.size hg4.size, fun i hi hn => (hg4.block i (Nat.lt_of_lt_of_le hi hG3.out.size) (fun e => hn ((own_any _ _ _).symm.trans e.symm))).trans (hG3.out.heap hi)⟩
    have hP4 : Hid (PAt W4 base b g1 c1 g2 c2 a3 c3 P2) := ⟨hP2.lb, (hB4.out.block b (hP2.bg b (.inl rfl)).2 (fun e => (hP2.b3 e).1 rfl)).trans hP2.blk, row_but hP2.r1 hB4.out (by rintro i e; cases e; exact fun e => (hP2.b3 e).2.1 rfl), row_but hP2.r2 hB4.out (by rintro i e; cases e; exact fun e => (hP2.b3 e).2.2 rfl), hk4, hP2.ap, hP2.ok⟩
    have hv4 : Hid (W4.ownsRow base 64 129 (.slice a4 (P2.float.length + 1) c4) (P2.float.length + 1) (wrsV P2.float ++ wrV ⟨k, x⟩)) := hv4
    have hl4 : Hid ((Value.slice a4 0 0).ownBlock = (Value.slice a3 0 0).ownBlock ∨ ∃ i, (Value.slice a4 0 0).ownBlock = some i ∧ W2.heap.size ≤ i) := by
        rcases hl4 with e | e
        · exact .inl (((own_any _ _ _).symm.trans e).trans (own_any _ _ _))
        · exact .inr ⟨_, (own_any _ _ _).symm.trans e, hG3.out.size⟩
    clear hg4 hk4
    simp only [Act.put, List.setIfInBounds_toArray, List.set_cons_zero, List.set_cons_succ]
    refine hK.out _ _ (⟨trivial, hP4.out⟩) (fun hHa16 => ?_)
    clear hK K
    refine lat_free (i := 16) (oi := { dst := some 61, op := Go.Op.nilCheck (Go.Operand.tmp 45), type := 0, pos := "platter.go:68", after := #[{ on := 0, ground := Go.Ground.data }, { on := 0, ground := Go.Ground.phase }, { on := 1, ground := Go.Ground.phase }, { on := 2, ground := Go.Ground.phase }, { on := 3, ground := Go.Ground.phase }, { on := 4, ground := Go.Ground.phase }, { on := 5, ground := Go.Ground.phase }, { on := 6, ground := Go.Ground.phase }, { on := 7, ground := Go.Ground.phase }, { on := 8, ground := Go.Ground.phase }, { on := 9, ground := Go.Ground.phase }, { on := 10, ground := Go.Ground.phase }, { on := 11, ground := Go.Ground.phase }, { on := 12, ground := Go.Ground.phase }, { on := 13, ground := Go.Ground.phase }, { on := 14, ground := Go.Ground.phase }, { on := 15, ground := Go.Ground.phase }], guard := none }) (v := ?va17) rfl (by kernel_rfl) (by kernel_rfl) (by kernel_rfl) (by kernel_rfl) (fun _ _ _ h => h) (Or.inl ⟨by rfl, ?hya17⟩) ⟨hHa16.1, fun _ => hHa16.2⟩ ?resta17
    case hya17 => (intro w hAw; skip; go_simp; try (with_reducible rfl))
    simp only [Act.put, List.setIfInBounds_toArray, List.set_cons_zero, List.set_cons_succ]
    refine lat_free (i := 17) (oi := { dst := some 62, op := Go.Op.fieldAddr 54 (Go.Operand.tmp 61) 2, type := 0, pos := "platter.go:68", after := #[{ on := 16, ground := Go.Ground.data }, { on := 0, ground := Go.Ground.phase }, { on := 1, ground := Go.Ground.phase }, { on := 2, ground := Go.Ground.phase }, { on := 3, ground := Go.Ground.phase }, { on := 4, ground := Go.Ground.phase }, { on := 5, ground := Go.Ground.phase }, { on := 6, ground := Go.Ground.phase }, { on := 7, ground := Go.Ground.phase }, { on := 8, ground := Go.Ground.phase }, { on := 9, ground := Go.Ground.phase }, { on := 10, ground := Go.Ground.phase }, { on := 11, ground := Go.Ground.phase }, { on := 12, ground := Go.Ground.phase }, { on := 13, ground := Go.Ground.phase }, { on := 14, ground := Go.Ground.phase }, { on := 15, ground := Go.Ground.phase }], guard := none }) (v := ?va18) rfl (by kernel_rfl) (by kernel_rfl) (by kernel_rfl) (by kernel_rfl) (fun _ _ _ h => h) (Or.inl ⟨by rfl, ?hya18⟩) ⟨hHa16.1, fun _ => hHa16.2⟩ ?resta18
    case hya18 => (intro w hAw; skip; go_simp; try (with_reducible rfl))
    simp only [Act.put, List.setIfInBounds_toArray, List.set_cons_zero, List.set_cons_succ]
    refine lat_one (i := 18) (by kernel_rfl) ?_
    refine lat_write (o := { dst := none, op := Go.Op.store 52 (Go.Operand.tmp 62) (Go.Operand.tmp 60), type := 0, pos := "platter.go:68", after := #[{ on := 17, ground := Go.Ground.data }, { on := 15, ground := Go.Ground.data }, { on := 15, ground := Go.Ground.chain }, { on := 0, ground := Go.Ground.phase }, { on := 1, ground := Go.Ground.phase }, { on := 2, ground := Go.Ground.phase }, { on := 3, ground := Go.Ground.phase }, { on := 4, ground := Go.Ground.phase }, { on := 5, ground := Go.Ground.phase }, { on := 6, ground := Go.Ground.phase }, { on := 7, ground := Go.Ground.phase }, { on := 8, ground := Go.Ground.phase }, { on := 9, ground := Go.Ground.phase }, { on := 10, ground := Go.Ground.phase }, { on := 11, ground := Go.Ground.phase }, { on := 12, ground := Go.Ground.phase }, { on := 13, ground := Go.Ground.phase }, { on := 14, ground := Go.Ground.phase }, { on := 15, ground := Go.Ground.phase }], guard := none }) rfl (by kernel_rfl) (fun K hK => ?_)
    have z2 := hP4.out.z 2
    have y2 := hP4.out.k2
    go_simp
    refine hK.out _ _ (trivial) (fun hHa19 => ?_)
    clear hK K
    refine lat_done (by kernel_rfl) ?_ _
    go_wp2_with (fail)
    go_ret
    have hF := PAt.more hP2 hB4.out hv4.out ⟨by show k < _; omega, hs⟩ hm2
    refine ⟨rfl, a4, c4, (show ({ P2 with float := P2.float ++ [⟨k, x⟩] } : Pl) = ⟨P.now.set k x, P.last, P.float ++ [⟨k, x⟩], P.left - 1, P.dead⟩ by rw [e2.out]) ▸ hF, ?_, ?_⟩
    · exact ((hB2.out.trans (hB4.out.more fun i _ e => .inr (.inr (.inr e)))).set (b := b) (.inl rfl) 2 none _)
    · intro i e
      rcases hl4.out with q | ⟨j, q, g⟩
      · exact .inl (q.symm.trans e)
      · rw [q] at e
        cases e
        exact .inr (Nat.le_trans hB2.out.size g)
  · rw [if_neg hp]
    go_enter Tryz.func8, Tryz.ntmps8
    go_upto_region 12 with (first
      | (go_at_call 18; go_fit (halted_any h); rintro e w' ⟨rfl, rfl⟩; rw [hd'])
      | (go_at_call 19; go_fit (has_any h (k : Int)); rintro e w' ⟨rfl, rfl⟩; rw [hdec]))
    obtain ⟨W1, hW1⟩ : ∃ W, W = w' := ⟨_, rfl⟩
    rw [← hW1]
    have hP1 : PAt W1 base b g1 c1 g2 c2 a3 c3 P := by rw [hW1]; exact h
    have hB1 : Hid (But (foot b g1 g2 a3) w' W1) := by rw [← hW1]; exact But.refl _ _
    clear hW1
    clear k0 k3 z3 hs'
    have q0 := hP1.k0
    have q2 := hP1.k2
    have ht : W1.there g1 (k * 128) x.size := own_there hP1.r1 _ _ (by show k * 128 + x.size ≤ P.now.length * 128; omega)
    go_upto_region 13 with (first
      | (refine wpList_copy_str rfl (.tmp 42) (.tmp 43) 60 9 rfl 5 Tryz.underlying60 (by kernel_rfl) g1 (k * 128) 128 x (by rw [hs]; rfl) rfl ht ?_)
      | fail)
    have hP2' := hP1.putNow (k := k) hk hs
    have hB2 : Hid (But (foot b g1 g2 a3) w' (W1.setCells g1 (k * 128) (pgV x))) := but_setCells (.inr (.inl rfl)) _ _ hB1.out
    generalize W1.setCells g1 (k * 128) (pgV x) = W2 at *
    clear q0 q2 ht hP1 hB1
    obtain ⟨P2, e2⟩ : ∃ Q : Pl, Q = ⟨P.now.set k x, P.last, P.float, P.left, P.dead⟩ := ⟨_, rfl⟩
    have hP2 : PAt W2 base b g1 c1 g2 c2 a3 c3 P2 := by rw [e2]; exact hP2'
    have hk2 : k < P2.now.length := by rw [e2]; simpa using hk
    have hk3 : (k : Int) < P2.now.length := by omega
    have hg2 : pg P2.now k = x := by rw [e2]; simp [pg, List.getD, hk]
    have hm2 : P2.float.length < 1000000 := by rw [e2]; exact hm
    clear hP2'
    replace e2 : Hid (P2 = ⟨P.now.set k x, P.last, P.float, P.left, P.dead⟩) := e2
    simp only [Act.put, List.setIfInBounds_toArray, List.set_cons_zero, List.set_cons_succ]
    refine lat_region (A := (fun _ => True)) (S := (fun w' => PAt w' base b g1 c1 g2 c2 a3 c3 P2)) [18] (by kernel_rfl) ?_ (fun hH0 => ?_)
    · exact ⟨trivial, hP2.but (S := fun _ => False) (Grew.but ((Grew.refl W2).drew)) (fun _ _ e => e)⟩
    refine lat_free (i := 0) (oi := { dst := some 45, op := Go.Op.move (Go.Operand.tmp 0), type := 24, pos := "platter.go:68", after := #[], guard := none }) (v := ?vc1) rfl (by kernel_rfl) (by kernel_rfl) (by kernel_rfl) (by kernel_rfl) (fun _ _ _ h => h) (Or.inl ⟨by rfl, ?hyc1⟩) ⟨hH0.1, fun _ => hH0.2⟩ ?restc1
    case hyc1 => (intro w hAw; skip; go_simp; try (with_reducible rfl))
    simp only [Act.put, List.setIfInBounds_toArray, List.set_cons_zero, List.set_cons_succ]
    refine lat_free (i := 1) (oi := { dst := some 46, op := Go.Op.move (Go.Operand.tmp 0), type := 24, pos := "platter.go:68", after := #[], guard := none }) (v := ?vc2) rfl (by kernel_rfl) (by kernel_rfl) (by kernel_rfl) (by kernel_rfl) (fun _ _ _ h => h) (Or.inl ⟨by rfl, ?hyc2⟩) ⟨hH0.1, fun _ => hH0.2⟩ ?restc2
    case hyc2 => (intro w hAw; skip; go_simp; try (with_reducible rfl))
    simp only [Act.put, List.setIfInBounds_toArray, List.set_cons_zero, List.set_cons_succ]
    refine lat_free (i := 2) (oi := { dst := some 47, op := Go.Op.nilCheck (Go.Operand.tmp 46), type := 0, pos := "platter.go:68", after := #[{ on := 1, ground := Go.Ground.data }], guard := none }) (v := ?vc3) rfl (by kernel_rfl) (by kernel_rfl) (by kernel_rfl) (by kernel_rfl) (fun _ _ _ h => h) (Or.inl ⟨by rfl, ?hyc3⟩) ⟨hH0.1, fun _ => hH0.2⟩ ?restc3
    case hyc3 => (intro w hAw; skip; go_simp; try (with_reducible rfl))
    simp only [Act.put, List.setIfInBounds_toArray, List.set_cons_zero, List.set_cons_succ]
    refine lat_free (i := 3) (oi := { dst := some 48, op := Go.Op.fieldAddr 54 (Go.Operand.tmp 47) 2, type := 0, pos := "platter.go:68", after := #[{ on := 2, ground := Go.Ground.data }], guard := none }) (v := ?vc4) rfl (by kernel_rfl) (by kernel_rfl) (by kernel_rfl) (by kernel_rfl) (fun _ _ _ h => h) (Or.inl ⟨by rfl, ?hyc4⟩) ⟨hH0.1, fun _ => hH0.2⟩ ?restc4
    case hyc4 => (intro w hAw; skip; go_simp; try (with_reducible rfl))
    simp only [Act.put, List.setIfInBounds_toArray, List.set_cons_zero, List.set_cons_succ]
    refine lat_take (i := 4) (oi := { dst := some 49, op := Go.Op.load 52 (Go.Operand.tmp 48), type := 52, pos := "platter.go:68", after := #[{ on := 3, ground := Go.Ground.data }], guard := none }) (v := ?vc5) rfl (by kernel_rfl) (by kernel_rfl) (by kernel_rfl) (by kernel_rfl) (by kernel_rfl) (fun _ _ _ h => h) (Or.inl ⟨by rfl, ?hyc5⟩) hH0 ?restc5
    case hyc5 => (intro w hSw; have q0 := hSw.k0; have q2 := hSw.k2; go_simp; try (with_reducible rfl))
    simp only [Act.put, List.setIfInBounds_toArray, List.set_cons_zero, List.set_cons_succ]
    refine lat_free (i := 5) (oi := { dst := some 50, op := Go.Op.move (Go.Operand.tmp 1), type := 3, pos := "platter.go:68", after := #[], guard := none }) (v := ?vc6) rfl (by kernel_rfl) (by kernel_rfl) (by kernel_rfl) (by kernel_rfl) (fun _ _ _ h => h) (Or.inl ⟨by rfl, ?hyc6⟩) ⟨hH0.1, fun _ => hH0.2⟩ ?restc6
    case hyc6 => (intro w hAw; skip; go_simp; try (with_reducible rfl))
    simp only [Act.put, List.setIfInBounds_toArray, List.set_cons_zero, List.set_cons_succ]
    refine lat_free (i := 6) (oi := { dst := some 51, op := Go.Op.move (Go.Operand.tmp 0), type := 24, pos := "platter.go:68", after := #[], guard := none }) (v := ?vc7) rfl (by kernel_rfl) (by kernel_rfl) (by kernel_rfl) (by kernel_rfl) (fun _ _ _ h => h) (Or.inl ⟨by rfl, ?hyc7⟩) ⟨hH0.1, fun _ => hH0.2⟩ ?restc7
    case hyc7 => (intro w hAw; skip; go_simp; try (with_reducible rfl))
    simp only [Act.put, List.setIfInBounds_toArray, List.set_cons_zero, List.set_cons_succ]
    refine lat_free (i := 7) (oi := { dst := some 52, op := Go.Op.nilCheck (Go.Operand.tmp 51), type := 0, pos := "platter.go:68", after := #[{ on := 6, ground := Go.Ground.data }], guard := none }) (v := ?vc8) rfl (by kernel_rfl) (by kernel_rfl) (by kernel_rfl) (by kernel_rfl) (fun _ _ _ h => h) (Or.inl ⟨by rfl, ?hyc8⟩) ⟨hH0.1, fun _ => hH0.2⟩ ?restc8
    case hyc8 => (intro w hAw; skip; go_simp; try (with_reducible rfl))
    simp only [Act.put, List.setIfInBounds_toArray, List.set_cons_zero, List.set_cons_succ]
    refine lat_free (i := 8) (oi := { dst := some 53, op := Go.Op.fieldAddr 54 (Go.Operand.tmp 52) 0, type := 0, pos := "platter.go:68", after := #[{ on := 7, ground := Go.Ground.data }], guard := none }) (v := ?vc9) rfl (by kernel_rfl) (by kernel_rfl) (by kernel_rfl) (by kernel_rfl) (fun _ _ _ h => h) (Or.inl ⟨by rfl, ?hyc9⟩) ⟨hH0.1, fun _ => hH0.2⟩ ?restc9
    case hyc9 => (intro w hAw; skip; go_simp; try (with_reducible rfl))
    simp only [Act.put, List.setIfInBounds_toArray, List.set_cons_zero, List.set_cons_succ]
    refine lat_take (i := 9) (oi := { dst := some 54, op := Go.Op.load 51 (Go.Operand.tmp 53), type := 51, pos := "platter.go:68", after := #[{ on := 8, ground := Go.Ground.data }], guard := none }) (v := ?vc10) rfl (by kernel_rfl) (by kernel_rfl) (by kernel_rfl) (by kernel_rfl) (by kernel_rfl) (fun _ _ _ h => h) (Or.inl ⟨by rfl, ?hyc10⟩) hH0 ?restc10
    case hyc10 => (intro w hSw; have q0 := hSw.k0; have q2 := hSw.k2; go_simp; try (with_reducible rfl))
    simp only [Act.put, List.setIfInBounds_toArray, List.set_cons_zero, List.set_cons_succ]
    refine lat_free (i := 10) (oi := { dst := some 55, op := Go.Op.move (Go.Operand.tmp 1), type := 3, pos := "platter.go:68", after := #[], guard := none }) (v := ?vc11) rfl (by kernel_rfl) (by kernel_rfl) (by kernel_rfl) (by kernel_rfl) (fun _ _ _ h => h) (Or.inl ⟨by rfl, ?hyc11⟩) ⟨hH0.1, fun _ => hH0.2⟩ ?restc11
    case hyc11 => (intro w hAw; skip; go_simp; try (with_reducible rfl))
    simp only [Act.put, List.setIfInBounds_toArray, List.set_cons_zero, List.set_cons_succ]
    refine lat_free (i := 11) (oi := { dst := some 56, op := Go.Op.indexAddr 51 (Go.Operand.tmp 54) (Go.Operand.tmp 55), type := 0, pos := "platter.go:68", after := #[{ on := 9, ground := Go.Ground.data }, { on := 10, ground := Go.Ground.data }], guard := none }) (v := ?vc12) rfl (by kernel_rfl) (by kernel_rfl) (by kernel_rfl) (by kernel_rfl) (fun _ _ _ h => h) (Or.inl ⟨by rfl, ?hyc12⟩) ⟨hH0.1, fun _ => hH0.2⟩ ?restc12
    case hyc12 => (intro w hAw; skip; go_simp; try (with_reducible rfl))
    simp only [Act.put, List.setIfInBounds_toArray, List.set_cons_zero, List.set_cons_succ]
    refine lat_take (i := 12) (oi := { dst := some 57, op := Go.Op.load 62 (Go.Operand.tmp 56), type := 62, pos := "platter.go:68", after := #[{ on := 11, ground := Go.Ground.data }], guard := none }) rfl (by kernel_rfl) (by kernel_rfl) (by kernel_rfl) (by kernel_rfl) (by kernel_rfl) (fun _ _ _ h => h) (yieldsIf_load_mid (by rfl) 62 (.tmp 56) rfl g1 (k * 128) rfl (pgV x) _ (fun w hSw => by have := hSw.page hk2; rw [hg2] at this; exact this) Tryz.underlying62 rfl (by rw [pgV_len, hs]; kernel_rfl)) hH0 ?restc13
    simp only [Act.put, List.setIfInBounds_toArray, List.set_cons_zero, List.set_cons_succ]
    refine lat_free (i := 13) (oi := { dst := some 58, op := Go.Op.build 64 #[(0, Go.Operand.tmp 50), (1, Go.Operand.tmp 57)], type := 64, pos := "platter.go:68", after := #[{ on := 5, ground := Go.Ground.data }, { on := 12, ground := Go.Ground.data }], guard := none }) rfl (by kernel_rfl) (by kernel_rfl) (by kernel_rfl) (by kernel_rfl) (fun _ _ _ h => h) (yields_buildWr (by rfl) (.tmp 50) (.tmp 57) rfl (k : Int) x rfl rfl hs) ⟨hH0.1, fun _ => hH0.2⟩ ?restc14
    simp only [Act.put, List.setIfInBounds_toArray, List.set_cons_zero, List.set_cons_succ]
    refine lat_one (i := 14) (by kernel_rfl) ?_
    refine lat_run (o := { dst := some 59, op := Go.Op.buildSlice 52 1 #[(0, Go.Operand.tmp 58)], type := 52, pos := "platter.go:68", after := #[{ on := 13, ground := Go.Ground.data }], guard := none }) rfl (fun K hK => ?_)
    refine step_buildWrs rfl (.tmp 58) rfl (.int .i64 (k : Int) :: pgV x) rfl (by simp [pgV_len, hs]) ?_
    have hP3 : Hid (PAt (W2.drew.alloc (.cells (.int .i64 (k : Int) :: pgV x).toArray 64)) base b g1 c1 g2 c2 a3 c3 P2) := hP2.but (S := fun _ => False) (Grew.but (((Grew.refl W2).drew).alloc _ _)) (fun _ _ e => e)
    have hG3 : Hid (Grew W2 (W2.drew.alloc (.cells (.int .i64 (k : Int) :: pgV x).toArray 64))) := ((Grew.refl W2).drew).alloc _ _
    have hN3 : Hid (Reads (W2.drew.alloc (.cells (.int .i64 (k : Int) :: pgV x).toArray 64)) (some ⟨W2.drew.heap.size, 0, none⟩) (wrV ⟨k, x⟩)) := .inr ⟨_, 0, rfl, fun j u hj => by rw [cell_of_row _ _ _ _ _ _ (heap_alloc_new _ _), Nat.zero_add]; simpa [wrV] using hj⟩
    generalize W2.drew.alloc (.cells (.int .i64 (k : Int) :: pgV x).toArray 64) = W3 at *
    simp only [Act.put, List.setIfInBounds_toArray, List.set_cons_zero, List.set_cons_succ]
    refine hK.out _ _ (⟨trivial, hP3.out⟩) (fun hHc15 => ?_)
    clear hK K
    refine lat_one (i := 15) (by kernel_rfl) ?_
    refine lat_run (o := { dst := some 60, op := Go.Op.call { callee := Go.Callee.builtin Go.Builtin.append, args := #[Go.Operand.tmp 49, Go.Operand.tmp 59], argTypes := #[52, 52] }, type := 52, pos := "platter.go:68", after := #[{ on := 4, ground := Go.Ground.data }, { on := 14, ground := Go.Ground.data }], guard := none }) rfl (fun K hK => ?_)
    refine step_app _ (by rfl) (.tmp 49) (.tmp 59) 52 (by rfl) base 64 iw (.agg zw) 129 136 Tryz.underlying52 i1 i2 i4 i5 (by show zw.size = 129; rw [← Array.length_toList, i3]; simp) (by decide) (.slice a3 P2.float.length c3) P2.float.length (wrsV P2.float) (by rfl) hP3.out.r3 (some ⟨W2.drew.heap.size, 0, none⟩) 1 1 (wrV ⟨k, x⟩) (by rfl) (by rw [wrV_len]; show 1 + x.size = 1 * 129; omega) hN3.out (wrV_one _) (by unfold maxLen; omega) (by omega) (by have := hG3.out.size; have := hP2.bg b (.inl rfl); omega) ?_
    intro v4 W4 hv4 hg4 hk4 hl4
    obtain ⟨a4, c4, rfl, _⟩ := own_reads hv4
    have hB4 : Hid (But (fun i => (Value.slice a3 0 0).ownBlock = some i) W2 W4) := ⟨hg4.os.trans hG3.out.grown.1.1, hg4.tape.trans hG3.out.tape, hg4.output.trans hG3.out.grown.1.2.1, Nat.le_trans hG3.out.size hg4.size, fun i hi hn => (hg4.block i (Nat.lt_of_lt_of_le hi hG3.out.size) (fun e => hn ((own_any _ _ _).symm.trans e.symm))).trans (hG3.out.heap hi)⟩
    have hP4 : Hid (PAt W4 base b g1 c1 g2 c2 a3 c3 P2) := ⟨hP2.lb, (hB4.out.block b (hP2.bg b (.inl rfl)).2 (fun e => (hP2.b3 e).1 rfl)).trans hP2.blk, row_but hP2.r1 hB4.out (by rintro i e; cases e; exact fun e => (hP2.b3 e).2.1 rfl), row_but hP2.r2 hB4.out (by rintro i e; cases e; exact fun e => (hP2.b3 e).2.2 rfl), hk4, hP2.ap, hP2.ok⟩
    have hv4 : Hid (W4.ownsRow base 64 129 (.slice a4 (P2.float.length + 1) c4) (P2.float.length + 1) (wrsV P2.float ++ wrV ⟨k, x⟩)) := hv4
    have hl4 : Hid ((Value.slice a4 0 0).ownBlock = (Value.slice a3 0 0).ownBlock ∨ ∃ i, (Value.slice a4 0 0).ownBlock = some i ∧ W2.heap.size ≤ i) := by
        rcases hl4 with e | e
        · exact .inl (((own_any _ _ _).symm.trans e).trans (own_any _ _ _))
        · exact .inr ⟨_, (own_any _ _ _).symm.trans e, hG3.out.size⟩
    clear hg4 hk4
    simp only [Act.put, List.setIfInBounds_toArray, List.set_cons_zero, List.set_cons_succ]
    refine hK.out _ _ (⟨trivial, hP4.out⟩) (fun hHc16 => ?_)
    clear hK K
    refine lat_free (i := 16) (oi := { dst := some 61, op := Go.Op.nilCheck (Go.Operand.tmp 45), type := 0, pos := "platter.go:68", after := #[{ on := 0, ground := Go.Ground.data }, { on := 0, ground := Go.Ground.phase }, { on := 1, ground := Go.Ground.phase }, { on := 2, ground := Go.Ground.phase }, { on := 3, ground := Go.Ground.phase }, { on := 4, ground := Go.Ground.phase }, { on := 5, ground := Go.Ground.phase }, { on := 6, ground := Go.Ground.phase }, { on := 7, ground := Go.Ground.phase }, { on := 8, ground := Go.Ground.phase }, { on := 9, ground := Go.Ground.phase }, { on := 10, ground := Go.Ground.phase }, { on := 11, ground := Go.Ground.phase }, { on := 12, ground := Go.Ground.phase }, { on := 13, ground := Go.Ground.phase }, { on := 14, ground := Go.Ground.phase }, { on := 15, ground := Go.Ground.phase }], guard := none }) (v := ?vc17) rfl (by kernel_rfl) (by kernel_rfl) (by kernel_rfl) (by kernel_rfl) (fun _ _ _ h => h) (Or.inl ⟨by rfl, ?hyc17⟩) ⟨hHc16.1, fun _ => hHc16.2⟩ ?restc17
    case hyc17 => (intro w hAw; skip; go_simp; try (with_reducible rfl))
    simp only [Act.put, List.setIfInBounds_toArray, List.set_cons_zero, List.set_cons_succ]
    refine lat_free (i := 17) (oi := { dst := some 62, op := Go.Op.fieldAddr 54 (Go.Operand.tmp 61) 2, type := 0, pos := "platter.go:68", after := #[{ on := 16, ground := Go.Ground.data }, { on := 0, ground := Go.Ground.phase }, { on := 1, ground := Go.Ground.phase }, { on := 2, ground := Go.Ground.phase }, { on := 3, ground := Go.Ground.phase }, { on := 4, ground := Go.Ground.phase }, { on := 5, ground := Go.Ground.phase }, { on := 6, ground := Go.Ground.phase }, { on := 7, ground := Go.Ground.phase }, { on := 8, ground := Go.Ground.phase }, { on := 9, ground := Go.Ground.phase }, { on := 10, ground := Go.Ground.phase }, { on := 11, ground := Go.Ground.phase }, { on := 12, ground := Go.Ground.phase }, { on := 13, ground := Go.Ground.phase }, { on := 14, ground := Go.Ground.phase }, { on := 15, ground := Go.Ground.phase }], guard := none }) (v := ?vc18) rfl (by kernel_rfl) (by kernel_rfl) (by kernel_rfl) (by kernel_rfl) (fun _ _ _ h => h) (Or.inl ⟨by rfl, ?hyc18⟩) ⟨hHc16.1, fun _ => hHc16.2⟩ ?restc18
    case hyc18 => (intro w hAw; skip; go_simp; try (with_reducible rfl))
    simp only [Act.put, List.setIfInBounds_toArray, List.set_cons_zero, List.set_cons_succ]
    refine lat_one (i := 18) (by kernel_rfl) ?_
    refine lat_write (o := { dst := none, op := Go.Op.store 52 (Go.Operand.tmp 62) (Go.Operand.tmp 60), type := 0, pos := "platter.go:68", after := #[{ on := 17, ground := Go.Ground.data }, { on := 15, ground := Go.Ground.data }, { on := 15, ground := Go.Ground.chain }, { on := 0, ground := Go.Ground.phase }, { on := 1, ground := Go.Ground.phase }, { on := 2, ground := Go.Ground.phase }, { on := 3, ground := Go.Ground.phase }, { on := 4, ground := Go.Ground.phase }, { on := 5, ground := Go.Ground.phase }, { on := 6, ground := Go.Ground.phase }, { on := 7, ground := Go.Ground.phase }, { on := 8, ground := Go.Ground.phase }, { on := 9, ground := Go.Ground.phase }, { on := 10, ground := Go.Ground.phase }, { on := 11, ground := Go.Ground.phase }, { on := 12, ground := Go.Ground.phase }, { on := 13, ground := Go.Ground.phase }, { on := 14, ground := Go.Ground.phase }, { on := 15, ground := Go.Ground.phase }], guard := none }) rfl (by kernel_rfl) (fun K hK => ?_)
    have z2 := hP4.out.z 2
    have y2 := hP4.out.k2
    go_simp
    refine hK.out _ _ (trivial) (fun hHc19 => ?_)
    clear hK K
    refine lat_done (by kernel_rfl) ?_ _
    go_wp2_with (fail)
    go_ret
    have hF := PAt.more hP2 hB4.out hv4.out ⟨by show k < _; omega, hs⟩ hm2
    refine ⟨rfl, a4, c4, (show ({ P2 with float := P2.float ++ [⟨k, x⟩] } : Pl) = ⟨P.now.set k x, P.last, P.float ++ [⟨k, x⟩], P.left, P.dead⟩ by rw [e2.out]) ▸ hF, ?_, ?_⟩
    · exact ((hB2.out.trans (hB4.out.more fun i _ e => .inr (.inr (.inr e)))).set (b := b) (.inl rfl) 2 none _)
    · intro i e
      rcases hl4.out with q | ⟨j, q, g⟩
      · exact .inl (q.symm.trans e)
      · rw [q] at e
        cases e
        exact .inr (Nat.le_trans hB2.out.size g)
end
end Go.Proofs.YtbkkhafckkndfaaGreat
