/-
  What package platter's Fail does at a platter that lies in memory.
-/
import Derived.Test.YtedhgejkobdihaaTSettle
namespace Go.Proofs.Ytedhgejkobdihaa
open Go Go.RowKit

theorem copy_src {w : World} {q o : Nat} {v : Value} {cs : List Value} (h : w.rangeAt q o (v :: cs)) (c : Nat) : ∀ j u, (cs.take c)[j]? = some u → w.cell? ((⟨q, o + 1, none⟩ : Addr).add j) = some u := fun j u hj => by
  rw [Addr.add_mid]
  refine range_tail h j u ?_
  rw [List.getElem?_take] at hj
  split at hj
  · exact hj
  · cases hj
theorem row_src {w : World} {B E k g n cap : Nat} {xs : List Value} (h : w.ownsRow B E k (.slice (some ⟨g, 0, none⟩) n cap) n xs) : ∀ j u, xs[j]? = some u → w.cell? ((⟨g, 0, none⟩ : Addr).add j) = some u := fun j u hj => by
  have := own_range h 0 xs (fun j v hj => by rw [Nat.zero_add]; exact hj) j u hj
  rw [Addr.add_mid]
  exact this
theorem Cuts.but {S : Nat → Prop} {w W : World} {a : Option Addr} {l : List Int} (h : Cuts w a l) (G : But S w W) (hS : ∀ z off, a = some ⟨z, off, none⟩ → l ≠ [] → ¬ S z) : Cuts W a l := by
  refine ⟨h.1, ?_⟩
  rcases h.2 with e | ⟨z, off, e, k⟩
  · exact .inl e
  · exact .inr ⟨z, off, e, fun i hi => G.cell (k i hi) (hS z off e (by rintro rfl; simp at hi))⟩
theorem ofNat_gt (c : Nat) : (decide ((0 : Int) < (c : Int))) = decide (0 < c) := by simp
section
variable {w : World} {base b g1 c1 g2 c2 c3 : Nat} {a3 : Option Addr} {P : Pl}
theorem PAt.restore (h : PAt w base b g1 c1 g2 c2 a3 c3 P) : PAt (w.setCells g1 0 (pagesV P.last)) base b g1 c1 g2 c2 a3 c3 { P with now := P.last } := by
  have G : But (fun i => i = g1) w (w.setCells g1 0 (pagesV P.last)) := but_setCells (S := fun i => i = g1) rfl _ _ (But.refl _ _)
  have hb := (Array.getElem?_eq_some_iff.1 h.blk).1
  have r1 := own_setCells (pagesV P.last) 0 h.r1
  rw [setL_head _ _ (by rw [pages_size h.ok.last, pages_size h.ok.now, h.ok.len]; exact Nat.le_refl _), List.drop_of_length_le (by rw [pages_size h.ok.last, pages_size h.ok.now, h.ok.len]; exact Nat.le_refl _), List.append_nil] at r1
  have el : P.last.length = P.now.length := h.ok.len
  refine ⟨h.lb, ?_, ?_, ?_, row_but h.r3 G ?_, h.ap, ⟨rfl, by show 0 < P.last.length; rw [el]; exact h.ok.pos, by show P.last.length ≤ 200; rw [el]; exact h.ok.top, h.ok.last, h.ok.last, ?_, h.ok.many, h.ok.left⟩⟩
  · show _ = some (Obj.cells #[.slice _ P.last.length _, .slice _ P.last.length _, _, _, _] _ _)
    rw [el]
    exact (G.block b hb (fun e => h.b1 e.symm)).trans h.blk
  · show World.ownsRow _ _ _ _ (.slice _ P.last.length _) P.last.length _
    rw [el]; exact r1
  · show World.ownsRow _ _ _ _ (.slice _ P.last.length _) P.last.length _
    rw [el]
    exact row_but h.r2 G (by rintro i e; cases e; exact fun e => h.ap e.symm)
  · rintro i e; exact (h.b3 ((own_any _ _ _).symm.trans e)).2.1
  · intro y hy
    show y.n < P.last.length ∧ _
    rw [el]; exact h.ok.float y hy
set_option maxRecDepth 10000 in
set_option maxHeartbeats 4000000 in
theorem fail_any (h : PAt w base b g1 c1 g2 c2 a3 c3 P) (ac : Option Addr) (cap : Nat) (cuts : List Int) (hcuts : Cuts w ac cuts) (hac : ∀ z off, ac = some ⟨z, off, none⟩ → cuts ≠ [] → ¬ foot b g1 g2 a3 z) :
    Calls Try.prog 13 #[.pointer (some ⟨b, 0, none⟩), .slice ac cuts.length cap] w fun e w' => e = .returned (.int .i64 (failP P cuts).1) ∧ Stored w base b g1 c1 g2 c2 a3 (failP P cuts).2 w' := by
  have k2 := h.k2
  obtain ⟨r, hr⟩ : ∃ r, r = failL cuts 0 P.float (0, P.last) := ⟨_, rfl⟩
  have e : failP P cuts = (r.1, ⟨r.2, r.2, [], -1, false⟩) := by rw [hr]; rfl
  rw [e]
  clear e
  have HC : Hid (Cuts w ac cuts) := hcuts
  clear hcuts
  go_enter Try.func13, Try.ntmps13
  go_wp2_with (first | (go_at_call 24; go_fit (none_any h); rintro e w' ⟨rfl, e⟩; have e := e.symm; subst e))
  go_loopw [16, 5] (fun i br wr => ∃ (k n : Nat) (L : List ByteArray), k ≤ P.float.length ∧ i = .int .i64 k ∧ (br = .int .i64 n ∧ n ≤ k) ∧ PAt wr base b g1 c1 g2 c2 a3 c3 ⟨P.now, L, P.float, P.left, P.dead⟩ ∧ But (foot b g1 g2 a3) w wr ∧ failL cuts k (P.float.drop k) ((n : Int), L) = r) (fun i _ _ => P.float.length - (intOf i).toNat)
  case atStart => exact ⟨0, 0, P.last, by omega, rfl, ⟨rfl, Nat.le_refl _⟩, h, But.refl _ _, hr.symm⟩
  case round =>
    obtain ⟨k, n, L, hk, rfl, ⟨rfl, hnk⟩, hP, hB, hs⟩ := hrel
    have HS : Hid (failL cuts k (P.float.drop k) ((n : Int), L) = r) := hs
    have HB : Hid (But (foot b g1 g2 a3) w wr) := hB
    have HP : Hid (PAt wr base b g1 c1 g2 c2 a3 c3 ⟨P.now, L, P.float, P.left, P.dead⟩) := hP
    have HCr : Hid (Cuts wr ac cuts) := HC.out.but hB hac
    clear hs hB hP k2 hr
    by_cases hlt : k < P.float.length
    · have hi : (k : Int) < (P.float.length : Int) := by omega
      have hw : wrap64 ((k : Int) + 1) = k + 1 := IntWalk.wrap64_in _ ⟨by omega, by have := h.ok.many; omega⟩
      have hwn : wrap64 ((n : Int) + 1) = n + 1 := IntWalk.wrap64_in _ ⟨by omega, by have := h.ok.many; omega⟩
      obtain ⟨x, hx⟩ : ∃ x, P.float[k]? = some x := ⟨_, List.getElem?_eq_getElem hlt⟩
      obtain ⟨hx1, hx2⟩ := h.ok.float x (List.mem_of_getElem? hx)
      obtain ⟨g3, rfl, hr⟩ := HP.out.wr (P := ⟨P.now, L, P.float, P.left, P.dead⟩) hx
      replace hx : Hid (P.float[k]? = some x) := hx
      have hxi : (x.n : Int) < P.now.length := by omega
      have hl : (wrV x).length = 129 := by rw [wrV_len, hx2]
      obtain ⟨bt, br, bg⟩ := boxed wr (wrV x) hl
      have hG : Hid (Grew wr ((wr.alloc (.cells zeroW.toArray 57)).setCells wr.heap.size 0 (wrV x))) := bg
      have hbr : Hid (((wr.alloc (.cells zeroW.toArray 57)).setCells wr.heap.size 0 (wrV x)).rangeAt wr.heap.size 0 (wrV x)) := br
      have hst : (storeCells ⟨wr.heap.size, 0, none⟩ (wrV x)).run Try.prog (wr.alloc (.cells zeroW.toArray 57)) = .ok () ((wr.alloc (.cells zeroW.toArray 57)).setCells wr.heap.size 0 (wrV x)) := by
        have := run_storeCells_cells (P := Try.prog) wr.heap.size 0 (wrV x) 0 (wr.alloc (.cells zeroW.toArray 57)) (by rw [hl]; exact fun j hj => by have := (bt j hj).1; simpa using this) (by rw [hl]; exact fun j hj => by simp) (wrV_one x)
        rw [Nat.zero_add] at this; exact this
      clear bg br bt
      go_upto_region 7 with (first
        | (refine wpList_load_mid rfl 57 (.tmp 19) rfl g3 (k * 129) rfl (wrV x) _ hr Try.underlying57 rfl (by rw [hl]; kernel_rfl) ?_)
        | (refine wpList_allocWr rfl rfl ?_)
        | fail)
      obtain ⟨q, hq⟩ : ∃ q, q = wr.heap.size := ⟨_, rfl⟩
      rw [← hq] at hG hbr ⊢
      have hPW : Hid (PAt ((wr.alloc (.cells zeroW.toArray 57)).setCells q 0 (wrV x)) base b g1 c1 g2 c2 (some ⟨g3, 0, none⟩) c3 ⟨P.now, L, P.float, P.left, P.dead⟩) := HP.out.but (S := fun _ => False) (Grew.but hG.out) (fun _ _ e => e)
      have hqW : Hid (((wr.alloc (.cells zeroW.toArray 57)).setCells q 0 (wrV x)).rangeAt q 0 (wrV x)) := hbr
      have HCW : Hid (Cuts ((wr.alloc (.cells zeroW.toArray 57)).setCells q 0 (wrV x)) ac cuts) := HCr.out.but (S := fun _ => False) (Grew.but hG.out) (fun _ _ _ _ e => e)
      have hqb : q ≠ b ∧ q ≠ g2 := by
        have h1 := (HP.out.bg b (.inl rfl)).2
        have h2 := (HP.out.bg g2 (.inr (.inr (.inl rfl)))).2
        exact ⟨by omega, by omega⟩
      generalize (wr.alloc (.cells zeroW.toArray 57)).setCells q 0 (wrV x) = W at *
      clear hst hbr hr hq
      obtain ⟨c, hcc⟩ : ∃ c, c = cutN cuts k := ⟨_, rfl⟩
      have hc : c ≤ 128 := by rw [hcc]; exact cutN_le _ _
      have hci : (c : Int) ≤ 128 := by omega
      have HE : Hid (failL cuts (k + 1) (P.float.drop (k + 1)) (if 0 < c then (n : Int) + 1 else (n : Int), L.set x.n (tear (pg L x.n) x.b c)) = r) := by
        have := failL_drop cuts P.float ((n : Int), L) k x hx.out
        rw [← hcc] at this
        exact this.symm.trans HS.out
      have HLs : Hid ((pg L x.n).size = 128) := hPW.out.ok.last _ (pg_mem (by rw [hPW.out.ok.len]; exact hx1))
      have htl : ((pgV x.b).take c).length = c * 1 := by rw [List.length_take, pgV_len, hx2, Nat.mul_one]; exact Nat.min_eq_left hc
      have htl1 : ((pgV x.b).take c).length ≤ 128 := by rw [htl, Nat.mul_one]; exact hc
      have htl2 : pgV (tear (pg L x.n) x.b c) = (pgV x.b).take c ++ (pgV (pg L x.n)).drop ((pgV x.b).take c).length := by rw [tear_cells, htl, Nat.mul_one]
      have Hth : Hid (x.n * 128 + c * 1 ≤ P.now.length * 128) := by show _ ≤ _; omega
      have qn := hqW.out 0 _ rfl
      simp only [Nat.add_zero] at qn
      have HC1 : Hid ((W.drew.setCells g2 (x.n * 128) ((pgV x.b).take c)).cell? ⟨b, 1, none⟩ = some (.slice (some ⟨g2, 0, none⟩) P.now.length c2)) := by
        show _ = _
        rw [World.cell?_setCells_out _ _ _ _ _ (fun e => absurd e.symm hPW.out.b2)]
        exact hPW.out.k1
      have HC2 : Hid ((W.drew.setCells g2 (x.n * 128) ((pgV x.b).take c)).cell? ⟨q, 0, none⟩ = some (.int .i64 (x.n : Int))) := by
        show _ = _
        rw [World.cell?_setCells_out _ _ _ _ _ (fun e => absurd e hqb.2)]
        exact qn
      replace hcc : Hid (c = cutN cuts k) := hcc
      replace htl : Hid (((pgV x.b).take c).length = c * 1) := htl
      replace htl1 : Hid (((pgV x.b).take c).length ≤ 128) := htl1
      replace htl2 : Hid (pgV (tear (pg L x.n) x.b c) = (pgV x.b).take c ++ (pgV (pg L x.n)).drop ((pgV x.b).take c).length) := htl2
      by_cases hpos : 0 < c
      · have hci0 : (0 : Int) < (c : Int) := by omega
        go_upto_region 10 with (first | (go_at_call 25; go_fit (cutAt_any W ac cap cuts HCW.out k); rintro e w' ⟨rfl, e⟩; have e := e.symm; subst e; rw [← hcc.out]))
        refine lat_region (A := (fun w' => w'.cell? ⟨b, 1, none⟩ = some (.slice (some ⟨g2, 0, none⟩) P.now.length c2) ∧ w'.cell? ⟨q, 0, none⟩ = some (.int .i64 (x.n : Int)))) (S := (fun _ => True)) [] (by kernel_rfl) ?_ (fun hH0 => ?_)
        · exact ⟨⟨hPW.out.k1, qn⟩, trivial⟩
        refine lat_free (i := 0) (oi := { dst := some 28, op := Go.Op.move (Go.Operand.tmp 0), type := 24, pos := "platter.go:106", after := #[], guard := none }) (v := ?va1) rfl (by kernel_rfl) (by kernel_rfl) (by kernel_rfl) (by kernel_rfl) (fun _ _ _ h => h) (Or.inl ⟨by rfl, ?hya1⟩) ⟨hH0.1, fun _ => hH0.2⟩ ?resta1
        case hya1 => (intro w hAw; obtain ⟨q1, q2⟩ := hAw; go_simp; try (with_reducible rfl))
        simp only [Act.put, List.setIfInBounds_toArray, List.set_cons_zero, List.set_cons_succ]
        refine lat_free (i := 1) (oi := { dst := some 29, op := Go.Op.nilCheck (Go.Operand.tmp 28), type := 0, pos := "platter.go:106", after := #[{ on := 0, ground := Go.Ground.data }], guard := none }) (v := ?va2) rfl (by kernel_rfl) (by kernel_rfl) (by kernel_rfl) (by kernel_rfl) (fun _ _ _ h => h) (Or.inl ⟨by rfl, ?hya2⟩) ⟨hH0.1, fun _ => hH0.2⟩ ?resta2
        case hya2 => (intro w hAw; obtain ⟨q1, q2⟩ := hAw; go_simp; try (with_reducible rfl))
        simp only [Act.put, List.setIfInBounds_toArray, List.set_cons_zero, List.set_cons_succ]
        refine lat_free (i := 2) (oi := { dst := some 30, op := Go.Op.fieldAddr 50 (Go.Operand.tmp 29) 1, type := 0, pos := "platter.go:106", after := #[{ on := 1, ground := Go.Ground.data }], guard := none }) (v := ?va3) rfl (by kernel_rfl) (by kernel_rfl) (by kernel_rfl) (by kernel_rfl) (fun _ _ _ h => h) (Or.inl ⟨by rfl, ?hya3⟩) ⟨hH0.1, fun _ => hH0.2⟩ ?resta3
        case hya3 => (intro w hAw; obtain ⟨q1, q2⟩ := hAw; go_simp; try (with_reducible rfl))
        simp only [Act.put, List.setIfInBounds_toArray, List.set_cons_zero, List.set_cons_succ]
        refine lat_free (i := 3) (oi := { dst := some 31, op := Go.Op.load 47 (Go.Operand.tmp 30), type := 47, pos := "platter.go:106", after := #[{ on := 2, ground := Go.Ground.data }], guard := none }) (v := ?va4) rfl (by kernel_rfl) (by kernel_rfl) (by kernel_rfl) (by kernel_rfl) (fun _ _ _ h => h) (Or.inl ⟨by rfl, ?hya4⟩) ⟨hH0.1, fun _ => hH0.2⟩ ?resta4
        case hya4 => (intro w hAw; obtain ⟨q1, q2⟩ := hAw; go_simp; try (with_reducible rfl))
        simp only [Act.put, List.setIfInBounds_toArray, List.set_cons_zero, List.set_cons_succ]
        refine lat_free (i := 4) (oi := { dst := some 32, op := Go.Op.fieldAddr 57 (Go.Operand.tmp 7) 0, type := 0, pos := "platter.go:106", after := #[], guard := none }) (v := ?va5) rfl (by kernel_rfl) (by kernel_rfl) (by kernel_rfl) (by kernel_rfl) (fun _ _ _ h => h) (Or.inl ⟨by rfl, ?hya5⟩) ⟨hH0.1, fun _ => hH0.2⟩ ?resta5
        case hya5 => (intro w hAw; obtain ⟨q1, q2⟩ := hAw; go_simp; try (with_reducible rfl))
        simp only [Act.put, List.setIfInBounds_toArray, List.set_cons_zero, List.set_cons_succ]
        refine lat_free (i := 5) (oi := { dst := some 33, op := Go.Op.load 3 (Go.Operand.tmp 32), type := 3, pos := "platter.go:106", after := #[{ on := 4, ground := Go.Ground.data }], guard := none }) (v := ?va6) rfl (by kernel_rfl) (by kernel_rfl) (by kernel_rfl) (by kernel_rfl) (fun _ _ _ h => h) (Or.inl ⟨by rfl, ?hya6⟩) ⟨hH0.1, fun _ => hH0.2⟩ ?resta6
        case hya6 => (intro w hAw; obtain ⟨q1, q2⟩ := hAw; go_simp; try (with_reducible rfl))
        simp only [Act.put, List.setIfInBounds_toArray, List.set_cons_zero, List.set_cons_succ]
        refine lat_free (i := 6) (oi := { dst := some 34, op := Go.Op.indexAddr 47 (Go.Operand.tmp 31) (Go.Operand.tmp 33), type := 0, pos := "platter.go:106", after := #[{ on := 3, ground := Go.Ground.data }, { on := 5, ground := Go.Ground.data }], guard := none }) (v := ?va7) rfl (by kernel_rfl) (by kernel_rfl) (by kernel_rfl) (by kernel_rfl) (fun _ _ _ h => h) (Or.inl ⟨by rfl, ?hya7⟩) ⟨hH0.1, fun _ => hH0.2⟩ ?resta7
        case hya7 => (intro w hAw; obtain ⟨q1, q2⟩ := hAw; go_simp; try (with_reducible rfl))
        simp only [Act.put, List.setIfInBounds_toArray, List.set_cons_zero, List.set_cons_succ]
        refine lat_free (i := 7) (oi := { dst := some 35, op := Go.Op.move (Go.Operand.tmp 8), type := 3, pos := "platter.go:106", after := #[], guard := none }) (v := ?va8) rfl (by kernel_rfl) (by kernel_rfl) (by kernel_rfl) (by kernel_rfl) (fun _ _ _ h => h) (Or.inl ⟨by rfl, ?hya8⟩) ⟨hH0.1, fun _ => hH0.2⟩ ?resta8
        case hya8 => (intro w hAw; obtain ⟨q1, q2⟩ := hAw; go_simp; try (with_reducible rfl))
        simp only [Act.put, List.setIfInBounds_toArray, List.set_cons_zero, List.set_cons_succ]
        refine lat_free (i := 8) (oi := { dst := some 36, op := Go.Op.slice 55 (Go.Operand.tmp 34) none (some (Go.Operand.tmp 35)) none, type := 53, pos := "platter.go:106", after := #[{ on := 6, ground := Go.Ground.data }, { on := 7, ground := Go.Ground.data }], guard := none }) (v := ?va9) rfl (by kernel_rfl) (by kernel_rfl) (by kernel_rfl) (by kernel_rfl) (fun _ _ _ h => h) (Or.inl ⟨by rfl, ?hya9⟩) ⟨hH0.1, fun _ => hH0.2⟩ ?resta9
        case hya9 => (intro w hAw; obtain ⟨q1, q2⟩ := hAw; go_simp; try (with_reducible rfl))
        simp only [Act.put, List.setIfInBounds_toArray, List.set_cons_zero, List.set_cons_succ]
        refine lat_free (i := 9) (oi := { dst := some 37, op := Go.Op.fieldAddr 57 (Go.Operand.tmp 7) 1, type := 0, pos := "platter.go:106", after := #[], guard := none }) (v := ?va10) rfl (by kernel_rfl) (by kernel_rfl) (by kernel_rfl) (by kernel_rfl) (fun _ _ _ h => h) (Or.inl ⟨by rfl, ?hya10⟩) ⟨hH0.1, fun _ => hH0.2⟩ ?resta10
        case hya10 => (intro w hAw; obtain ⟨q1, q2⟩ := hAw; go_simp; try (with_reducible rfl))
        simp only [Act.put, List.setIfInBounds_toArray, List.set_cons_zero, List.set_cons_succ]
        refine lat_free (i := 10) (oi := { dst := some 38, op := Go.Op.move (Go.Operand.tmp 8), type := 3, pos := "platter.go:106", after := #[], guard := none }) (v := ?va11) rfl (by kernel_rfl) (by kernel_rfl) (by kernel_rfl) (by kernel_rfl) (fun _ _ _ h => h) (Or.inl ⟨by rfl, ?hya11⟩) ⟨hH0.1, fun _ => hH0.2⟩ ?resta11
        case hya11 => (intro w hAw; obtain ⟨q1, q2⟩ := hAw; go_simp; try (with_reducible rfl))
        simp only [Act.put, List.setIfInBounds_toArray, List.set_cons_zero, List.set_cons_succ]
        refine lat_free (i := 11) (oi := { dst := some 39, op := Go.Op.slice 55 (Go.Operand.tmp 37) none (some (Go.Operand.tmp 38)) none, type := 53, pos := "platter.go:106", after := #[{ on := 9, ground := Go.Ground.data }, { on := 10, ground := Go.Ground.data }], guard := none }) (v := ?va12) rfl (by kernel_rfl) (by kernel_rfl) (by kernel_rfl) (by kernel_rfl) (fun _ _ _ h => h) (Or.inl ⟨by rfl, ?hya12⟩) ⟨hH0.1, fun _ => hH0.2⟩ ?resta12
        case hya12 => (intro w hAw; obtain ⟨q1, q2⟩ := hAw; go_simp; try (with_reducible rfl))
        simp only [Act.put, List.setIfInBounds_toArray, List.set_cons_zero, List.set_cons_succ]
        refine lat_one (i := 12) (by kernel_rfl) ?_
        refine lat_run (o := { dst := some 40, op := Go.Op.call { callee := Go.Callee.builtin Go.Builtin.copy, args := #[Go.Operand.tmp 36, Go.Operand.tmp 39], argTypes := #[53, 53] }, type := 3, pos := "platter.go:106", after := #[{ on := 8, ground := Go.Ground.data }, { on := 11, ground := Go.Ground.data }], guard := none }) rfl (fun K hK => ?_)
        refine step_copy_wide rfl (.tmp 36) (.tmp 39) 53 53 rfl 5 Try.underlying53 1 (by kernel_rfl) g2 (x.n * 128) c 128 128 ⟨q, 1, none⟩ ((pgV x.b).take c) rfl rfl htl.out ?hsra ?htha (fun v hv => pgV_one _ v (List.mem_of_mem_take hv)) ?_
        case hsra => exact copy_src (w := W.drew) (q := q) (o := 0) (v := .int .i64 (x.n : Int)) hqW.out c
        case htha => exact own_there (w := W.drew) (hPW.out.but (S := fun _ => False) (Grew.but (Grew.refl _).drew) (fun _ _ e => e)).r2 _ _ (Hth.out)
        simp only [Act.put, List.setIfInBounds_toArray, List.set_cons_zero, List.set_cons_succ]
        refine hK.out _ _ (⟨⟨HC1.out, HC2.out⟩, trivial⟩) (fun hHa13 => ?_)
        clear hK K
        refine lat_done (by kernel_rfl) ?_ _
        go_wp2_with (fail)
        refine ⟨⟨k + 1, n + 1, L.set x.n (tear (pg L x.n) x.b c), hlt, by simp [hw], ⟨by simp [hwn], Nat.succ_le_succ hnk⟩, ?_, ?_, ?_⟩, ?_⟩
        · exact PAt.putLast (w := W.drew) (hPW.out.but (S := fun _ => False) (Grew.but (Grew.refl _).drew) (fun _ _ e => e)) (k := x.n) hx1 (tear_size HLs.out hx2 hc) ((pgV x.b).take c) htl1.out htl2.out
        · exact but_setCells (.inr (.inr (.inl rfl))) _ _ (HB.out.trans ((Grew.but hG.out).trans (Grew.but (Grew.refl _).drew)))
        · exact (by have := HE.out; rw [if_pos hpos] at this; exact this)
        · exact meas _ _ hlt hw
      · have hci0 : ¬ (0 : Int) < (c : Int) := by omega
        go_upto_region 10 with (first | (go_at_call 25; go_fit (cutAt_any W ac cap cuts HCW.out k); rintro e w' ⟨rfl, e⟩; have e := e.symm; subst e; rw [← hcc.out]))
        refine lat_region (A := (fun w' => w'.cell? ⟨b, 1, none⟩ = some (.slice (some ⟨g2, 0, none⟩) P.now.length c2) ∧ w'.cell? ⟨q, 0, none⟩ = some (.int .i64 (x.n : Int)))) (S := (fun _ => True)) [] (by kernel_rfl) ?_ (fun hH0 => ?_)
        · exact ⟨⟨hPW.out.k1, qn⟩, trivial⟩
        refine lat_free (i := 0) (oi := { dst := some 28, op := Go.Op.move (Go.Operand.tmp 0), type := 24, pos := "platter.go:106", after := #[], guard := none }) (v := ?vc1) rfl (by kernel_rfl) (by kernel_rfl) (by kernel_rfl) (by kernel_rfl) (fun _ _ _ h => h) (Or.inl ⟨by rfl, ?hyc1⟩) ⟨hH0.1, fun _ => hH0.2⟩ ?restc1
        case hyc1 => (intro w hAw; obtain ⟨q1, q2⟩ := hAw; go_simp; try (with_reducible rfl))
        simp only [Act.put, List.setIfInBounds_toArray, List.set_cons_zero, List.set_cons_succ]
        refine lat_free (i := 1) (oi := { dst := some 29, op := Go.Op.nilCheck (Go.Operand.tmp 28), type := 0, pos := "platter.go:106", after := #[{ on := 0, ground := Go.Ground.data }], guard := none }) (v := ?vc2) rfl (by kernel_rfl) (by kernel_rfl) (by kernel_rfl) (by kernel_rfl) (fun _ _ _ h => h) (Or.inl ⟨by rfl, ?hyc2⟩) ⟨hH0.1, fun _ => hH0.2⟩ ?restc2
        case hyc2 => (intro w hAw; obtain ⟨q1, q2⟩ := hAw; go_simp; try (with_reducible rfl))
        simp only [Act.put, List.setIfInBounds_toArray, List.set_cons_zero, List.set_cons_succ]
        refine lat_free (i := 2) (oi := { dst := some 30, op := Go.Op.fieldAddr 50 (Go.Operand.tmp 29) 1, type := 0, pos := "platter.go:106", after := #[{ on := 1, ground := Go.Ground.data }], guard := none }) (v := ?vc3) rfl (by kernel_rfl) (by kernel_rfl) (by kernel_rfl) (by kernel_rfl) (fun _ _ _ h => h) (Or.inl ⟨by rfl, ?hyc3⟩) ⟨hH0.1, fun _ => hH0.2⟩ ?restc3
        case hyc3 => (intro w hAw; obtain ⟨q1, q2⟩ := hAw; go_simp; try (with_reducible rfl))
        simp only [Act.put, List.setIfInBounds_toArray, List.set_cons_zero, List.set_cons_succ]
        refine lat_free (i := 3) (oi := { dst := some 31, op := Go.Op.load 47 (Go.Operand.tmp 30), type := 47, pos := "platter.go:106", after := #[{ on := 2, ground := Go.Ground.data }], guard := none }) (v := ?vc4) rfl (by kernel_rfl) (by kernel_rfl) (by kernel_rfl) (by kernel_rfl) (fun _ _ _ h => h) (Or.inl ⟨by rfl, ?hyc4⟩) ⟨hH0.1, fun _ => hH0.2⟩ ?restc4
        case hyc4 => (intro w hAw; obtain ⟨q1, q2⟩ := hAw; go_simp; try (with_reducible rfl))
        simp only [Act.put, List.setIfInBounds_toArray, List.set_cons_zero, List.set_cons_succ]
        refine lat_free (i := 4) (oi := { dst := some 32, op := Go.Op.fieldAddr 57 (Go.Operand.tmp 7) 0, type := 0, pos := "platter.go:106", after := #[], guard := none }) (v := ?vc5) rfl (by kernel_rfl) (by kernel_rfl) (by kernel_rfl) (by kernel_rfl) (fun _ _ _ h => h) (Or.inl ⟨by rfl, ?hyc5⟩) ⟨hH0.1, fun _ => hH0.2⟩ ?restc5
        case hyc5 => (intro w hAw; obtain ⟨q1, q2⟩ := hAw; go_simp; try (with_reducible rfl))
        simp only [Act.put, List.setIfInBounds_toArray, List.set_cons_zero, List.set_cons_succ]
        refine lat_free (i := 5) (oi := { dst := some 33, op := Go.Op.load 3 (Go.Operand.tmp 32), type := 3, pos := "platter.go:106", after := #[{ on := 4, ground := Go.Ground.data }], guard := none }) (v := ?vc6) rfl (by kernel_rfl) (by kernel_rfl) (by kernel_rfl) (by kernel_rfl) (fun _ _ _ h => h) (Or.inl ⟨by rfl, ?hyc6⟩) ⟨hH0.1, fun _ => hH0.2⟩ ?restc6
        case hyc6 => (intro w hAw; obtain ⟨q1, q2⟩ := hAw; go_simp; try (with_reducible rfl))
        simp only [Act.put, List.setIfInBounds_toArray, List.set_cons_zero, List.set_cons_succ]
        refine lat_free (i := 6) (oi := { dst := some 34, op := Go.Op.indexAddr 47 (Go.Operand.tmp 31) (Go.Operand.tmp 33), type := 0, pos := "platter.go:106", after := #[{ on := 3, ground := Go.Ground.data }, { on := 5, ground := Go.Ground.data }], guard := none }) (v := ?vc7) rfl (by kernel_rfl) (by kernel_rfl) (by kernel_rfl) (by kernel_rfl) (fun _ _ _ h => h) (Or.inl ⟨by rfl, ?hyc7⟩) ⟨hH0.1, fun _ => hH0.2⟩ ?restc7
        case hyc7 => (intro w hAw; obtain ⟨q1, q2⟩ := hAw; go_simp; try (with_reducible rfl))
        simp only [Act.put, List.setIfInBounds_toArray, List.set_cons_zero, List.set_cons_succ]
        refine lat_free (i := 7) (oi := { dst := some 35, op := Go.Op.move (Go.Operand.tmp 8), type := 3, pos := "platter.go:106", after := #[], guard := none }) (v := ?vc8) rfl (by kernel_rfl) (by kernel_rfl) (by kernel_rfl) (by kernel_rfl) (fun _ _ _ h => h) (Or.inl ⟨by rfl, ?hyc8⟩) ⟨hH0.1, fun _ => hH0.2⟩ ?restc8
        case hyc8 => (intro w hAw; obtain ⟨q1, q2⟩ := hAw; go_simp; try (with_reducible rfl))
        simp only [Act.put, List.setIfInBounds_toArray, List.set_cons_zero, List.set_cons_succ]
        refine lat_free (i := 8) (oi := { dst := some 36, op := Go.Op.slice 55 (Go.Operand.tmp 34) none (some (Go.Operand.tmp 35)) none, type := 53, pos := "platter.go:106", after := #[{ on := 6, ground := Go.Ground.data }, { on := 7, ground := Go.Ground.data }], guard := none }) (v := ?vc9) rfl (by kernel_rfl) (by kernel_rfl) (by kernel_rfl) (by kernel_rfl) (fun _ _ _ h => h) (Or.inl ⟨by rfl, ?hyc9⟩) ⟨hH0.1, fun _ => hH0.2⟩ ?restc9
        case hyc9 => (intro w hAw; obtain ⟨q1, q2⟩ := hAw; go_simp; try (with_reducible rfl))
        simp only [Act.put, List.setIfInBounds_toArray, List.set_cons_zero, List.set_cons_succ]
        refine lat_free (i := 9) (oi := { dst := some 37, op := Go.Op.fieldAddr 57 (Go.Operand.tmp 7) 1, type := 0, pos := "platter.go:106", after := #[], guard := none }) (v := ?vc10) rfl (by kernel_rfl) (by kernel_rfl) (by kernel_rfl) (by kernel_rfl) (fun _ _ _ h => h) (Or.inl ⟨by rfl, ?hyc10⟩) ⟨hH0.1, fun _ => hH0.2⟩ ?restc10
        case hyc10 => (intro w hAw; obtain ⟨q1, q2⟩ := hAw; go_simp; try (with_reducible rfl))
        simp only [Act.put, List.setIfInBounds_toArray, List.set_cons_zero, List.set_cons_succ]
        refine lat_free (i := 10) (oi := { dst := some 38, op := Go.Op.move (Go.Operand.tmp 8), type := 3, pos := "platter.go:106", after := #[], guard := none }) (v := ?vc11) rfl (by kernel_rfl) (by kernel_rfl) (by kernel_rfl) (by kernel_rfl) (fun _ _ _ h => h) (Or.inl ⟨by rfl, ?hyc11⟩) ⟨hH0.1, fun _ => hH0.2⟩ ?restc11
        case hyc11 => (intro w hAw; obtain ⟨q1, q2⟩ := hAw; go_simp; try (with_reducible rfl))
        simp only [Act.put, List.setIfInBounds_toArray, List.set_cons_zero, List.set_cons_succ]
        refine lat_free (i := 11) (oi := { dst := some 39, op := Go.Op.slice 55 (Go.Operand.tmp 37) none (some (Go.Operand.tmp 38)) none, type := 53, pos := "platter.go:106", after := #[{ on := 9, ground := Go.Ground.data }, { on := 10, ground := Go.Ground.data }], guard := none }) (v := ?vc12) rfl (by kernel_rfl) (by kernel_rfl) (by kernel_rfl) (by kernel_rfl) (fun _ _ _ h => h) (Or.inl ⟨by rfl, ?hyc12⟩) ⟨hH0.1, fun _ => hH0.2⟩ ?restc12
        case hyc12 => (intro w hAw; obtain ⟨q1, q2⟩ := hAw; go_simp; try (with_reducible rfl))
        simp only [Act.put, List.setIfInBounds_toArray, List.set_cons_zero, List.set_cons_succ]
        refine lat_one (i := 12) (by kernel_rfl) ?_
        refine lat_run (o := { dst := some 40, op := Go.Op.call { callee := Go.Callee.builtin Go.Builtin.copy, args := #[Go.Operand.tmp 36, Go.Operand.tmp 39], argTypes := #[53, 53] }, type := 3, pos := "platter.go:106", after := #[{ on := 8, ground := Go.Ground.data }, { on := 11, ground := Go.Ground.data }], guard := none }) rfl (fun K hK => ?_)
        refine step_copy_wide rfl (.tmp 36) (.tmp 39) 53 53 rfl 5 Try.underlying53 1 (by kernel_rfl) g2 (x.n * 128) c 128 128 ⟨q, 1, none⟩ ((pgV x.b).take c) rfl rfl htl.out ?hsrc ?hthc (fun v hv => pgV_one _ v (List.mem_of_mem_take hv)) ?_
        case hsrc => exact copy_src (w := W.drew) (q := q) (o := 0) (v := .int .i64 (x.n : Int)) hqW.out c
        case hthc => exact own_there (w := W.drew) (hPW.out.but (S := fun _ => False) (Grew.but (Grew.refl _).drew) (fun _ _ e => e)).r2 _ _ (Hth.out)
        simp only [Act.put, List.setIfInBounds_toArray, List.set_cons_zero, List.set_cons_succ]
        refine hK.out _ _ (⟨⟨HC1.out, HC2.out⟩, trivial⟩) (fun hHc13 => ?_)
        clear hK K
        refine lat_done (by kernel_rfl) ?_ _
        go_wp2_with (fail)
        refine ⟨⟨k + 1, n, L.set x.n (tear (pg L x.n) x.b c), hlt, by simp [hw], ⟨rfl, Nat.le_succ_of_le hnk⟩, ?_, ?_, ?_⟩, ?_⟩
        · exact PAt.putLast (w := W.drew) (hPW.out.but (S := fun _ => False) (Grew.but (Grew.refl _).drew) (fun _ _ e => e)) (k := x.n) hx1 (tear_size HLs.out hx2 hc) ((pgV x.b).take c) htl1.out htl2.out
        · exact but_setCells (.inr (.inr (.inl rfl))) _ _ (HB.out.trans ((Grew.but hG.out).trans (Grew.but (Grew.refl _).drew)))
        · exact (by have := HE.out; rw [if_neg hpos] at this; exact this)
        · exact meas _ _ hlt hw
    · have hi : ¬ (k : Int) < (P.float.length : Int) := by omega
      have hk2 : P.float.drop k = [] := List.drop_of_length_le (by omega)
      have e := HS.out
      rw [hk2, failL] at e
      have hPr : Hid (PAt wr base b g1 c1 g2 c2 a3 c3 ⟨P.now, L, P.float, P.left, P.dead⟩) := HP.out
      have HLL : Hid ((pagesV L).length = P.now.length * 128) := by show _ = _; rw [pages_size hPr.out.ok.last]; have := hPr.out.ok.len; dsimp only at this; rw [this]
      have HC3 : Hid ((wr.drew.setCells g1 0 (pagesV L)).cell? ⟨b, 0, none⟩ = some (.slice (some ⟨g1, 0, none⟩) P.now.length c1)) := by
        show _ = _
        rw [World.cell?_setCells_out _ _ _ _ _ (fun e => absurd e.symm hPr.out.b1)]
        exact hPr.out.k0
      have HC4 : Hid ((wr.drew.setCells g1 0 (pagesV L)).cell? ⟨b, 1, none⟩ = some (.slice (some ⟨g2, 0, none⟩) P.now.length c2)) := by
        show _ = _
        rw [World.cell?_setCells_out _ _ _ _ _ (fun e => absurd e.symm hPr.out.b1)]
        exact hPr.out.k1
      obtain rfl : r = ((n : Int), L) := e.symm
      go_upto_region 12 with (fail)
      refine lat_region (A := (fun w' => w'.cell? ⟨b, 0, none⟩ = some (.slice (some ⟨g1, 0, none⟩) P.now.length c1) ∧ w'.cell? ⟨b, 1, none⟩ = some (.slice (some ⟨g2, 0, none⟩) P.now.length c2))) (S := (fun _ => True)) [] (by kernel_rfl) ?_ (fun hH0 => ?_)
      · exact ⟨⟨hPr.out.k0, hPr.out.k1⟩, trivial⟩
      refine lat_free (i := 0) (oi := { dst := some 42, op := Go.Op.move (Go.Operand.tmp 0), type := 24, pos := "platter.go:108", after := #[], guard := none }) (v := ?vd1) rfl (by kernel_rfl) (by kernel_rfl) (by kernel_rfl) (by kernel_rfl) (fun _ _ _ h => h) (Or.inl ⟨by rfl, ?hyd1⟩) ⟨hH0.1, fun _ => hH0.2⟩ ?restd1
      case hyd1 => (intro w hAw; obtain ⟨q1, q2⟩ := hAw; go_simp; try (with_reducible rfl))
      simp only [Act.put, List.setIfInBounds_toArray, List.set_cons_zero, List.set_cons_succ]
      refine lat_free (i := 1) (oi := { dst := some 43, op := Go.Op.nilCheck (Go.Operand.tmp 42), type := 0, pos := "platter.go:108", after := #[{ on := 0, ground := Go.Ground.data }], guard := none }) (v := ?vd2) rfl (by kernel_rfl) (by kernel_rfl) (by kernel_rfl) (by kernel_rfl) (fun _ _ _ h => h) (Or.inl ⟨by rfl, ?hyd2⟩) ⟨hH0.1, fun _ => hH0.2⟩ ?restd2
      case hyd2 => (intro w hAw; obtain ⟨q1, q2⟩ := hAw; go_simp; try (with_reducible rfl))
      simp only [Act.put, List.setIfInBounds_toArray, List.set_cons_zero, List.set_cons_succ]
      refine lat_free (i := 2) (oi := { dst := some 44, op := Go.Op.fieldAddr 50 (Go.Operand.tmp 43) 0, type := 0, pos := "platter.go:108", after := #[{ on := 1, ground := Go.Ground.data }], guard := none }) (v := ?vd3) rfl (by kernel_rfl) (by kernel_rfl) (by kernel_rfl) (by kernel_rfl) (fun _ _ _ h => h) (Or.inl ⟨by rfl, ?hyd3⟩) ⟨hH0.1, fun _ => hH0.2⟩ ?restd3
      case hyd3 => (intro w hAw; obtain ⟨q1, q2⟩ := hAw; go_simp; try (with_reducible rfl))
      simp only [Act.put, List.setIfInBounds_toArray, List.set_cons_zero, List.set_cons_succ]
      refine lat_free (i := 3) (oi := { dst := some 45, op := Go.Op.load 47 (Go.Operand.tmp 44), type := 47, pos := "platter.go:108", after := #[{ on := 2, ground := Go.Ground.data }], guard := none }) (v := ?vd4) rfl (by kernel_rfl) (by kernel_rfl) (by kernel_rfl) (by kernel_rfl) (fun _ _ _ h => h) (Or.inl ⟨by rfl, ?hyd4⟩) ⟨hH0.1, fun _ => hH0.2⟩ ?restd4
      case hyd4 => (intro w hAw; obtain ⟨q1, q2⟩ := hAw; go_simp; try (with_reducible rfl))
      simp only [Act.put, List.setIfInBounds_toArray, List.set_cons_zero, List.set_cons_succ]
      refine lat_free (i := 4) (oi := { dst := some 46, op := Go.Op.move (Go.Operand.tmp 0), type := 24, pos := "platter.go:108", after := #[], guard := none }) (v := ?vd5) rfl (by kernel_rfl) (by kernel_rfl) (by kernel_rfl) (by kernel_rfl) (fun _ _ _ h => h) (Or.inl ⟨by rfl, ?hyd5⟩) ⟨hH0.1, fun _ => hH0.2⟩ ?restd5
      case hyd5 => (intro w hAw; obtain ⟨q1, q2⟩ := hAw; go_simp; try (with_reducible rfl))
      simp only [Act.put, List.setIfInBounds_toArray, List.set_cons_zero, List.set_cons_succ]
      refine lat_free (i := 5) (oi := { dst := some 47, op := Go.Op.nilCheck (Go.Operand.tmp 46), type := 0, pos := "platter.go:108", after := #[{ on := 4, ground := Go.Ground.data }], guard := none }) (v := ?vd6) rfl (by kernel_rfl) (by kernel_rfl) (by kernel_rfl) (by kernel_rfl) (fun _ _ _ h => h) (Or.inl ⟨by rfl, ?hyd6⟩) ⟨hH0.1, fun _ => hH0.2⟩ ?restd6
      case hyd6 => (intro w hAw; obtain ⟨q1, q2⟩ := hAw; go_simp; try (with_reducible rfl))
      simp only [Act.put, List.setIfInBounds_toArray, List.set_cons_zero, List.set_cons_succ]
      refine lat_free (i := 6) (oi := { dst := some 48, op := Go.Op.fieldAddr 50 (Go.Operand.tmp 47) 1, type := 0, pos := "platter.go:108", after := #[{ on := 5, ground := Go.Ground.data }], guard := none }) (v := ?vd7) rfl (by kernel_rfl) (by kernel_rfl) (by kernel_rfl) (by kernel_rfl) (fun _ _ _ h => h) (Or.inl ⟨by rfl, ?hyd7⟩) ⟨hH0.1, fun _ => hH0.2⟩ ?restd7
      case hyd7 => (intro w hAw; obtain ⟨q1, q2⟩ := hAw; go_simp; try (with_reducible rfl))
      simp only [Act.put, List.setIfInBounds_toArray, List.set_cons_zero, List.set_cons_succ]
      refine lat_free (i := 7) (oi := { dst := some 49, op := Go.Op.load 47 (Go.Operand.tmp 48), type := 47, pos := "platter.go:108", after := #[{ on := 6, ground := Go.Ground.data }], guard := none }) (v := ?vd8) rfl (by kernel_rfl) (by kernel_rfl) (by kernel_rfl) (by kernel_rfl) (fun _ _ _ h => h) (Or.inl ⟨by rfl, ?hyd8⟩) ⟨hH0.1, fun _ => hH0.2⟩ ?restd8
      case hyd8 => (intro w hAw; obtain ⟨q1, q2⟩ := hAw; go_simp; try (with_reducible rfl))
      simp only [Act.put, List.setIfInBounds_toArray, List.set_cons_zero, List.set_cons_succ]
      refine lat_one (i := 8) (by kernel_rfl) ?_
      refine lat_run (o := { dst := some 50, op := Go.Op.call { callee := Go.Callee.builtin Go.Builtin.copy, args := #[Go.Operand.tmp 45, Go.Operand.tmp 49], argTypes := #[47, 47] }, type := 3, pos := "platter.go:108", after := #[{ on := 3, ground := Go.Ground.data }, { on := 7, ground := Go.Ground.data }], guard := none }) rfl (fun K hK => ?_)
      refine step_copy_wide rfl (.tmp 45) (.tmp 49) 47 47 rfl 55 Try.underlying47 128 (by kernel_rfl) g1 0 P.now.length c1 c2 ⟨g2, 0, none⟩ (pagesV L) rfl rfl HLL.out ?hsrd ?hthd (pages_one _) ?_
      case hsrd => exact row_src (w := wr.drew) (hPr.out.but (S := fun _ => False) (Grew.but (Grew.refl _).drew) (fun _ _ e => e)).r2
      case hthd => exact own_there (w := wr.drew) (hPr.out.but (S := fun _ => False) (Grew.but (Grew.refl _).drew) (fun _ _ e => e)).r1 0 (P.now.length * 128) (by show 0 + P.now.length * 128 ≤ P.now.length * 128; rw [Nat.zero_add]; exact Nat.le_refl _)
      simp only [Act.put, List.setIfInBounds_toArray, List.set_cons_zero, List.set_cons_succ]
      refine hK.out _ _ (⟨⟨HC3.out, HC4.out⟩, trivial⟩) (fun hHd9 => ?_)
      clear hK K
      refine lat_done (by kernel_rfl) ?_ _
      have hF := PAt.restore (hPr.out.but (S := fun _ => False) (Grew.but (Grew.refl wr).drew) (fun _ _ e => e))
      have HBF : Hid (But (foot b g1 g2 a3) w (wr.drew.setCells g1 0 (pagesV L))) := but_setCells (.inr (.inl rfl)) _ _ (HB.out.trans (Grew.but (Grew.refl _).drew))
      dsimp only at hF
      generalize wr.drew.setCells g1 0 (pagesV L) = WF at *
      have y2 := hF.k2
      have z2 := hF.z 2
      have y3 := hF.k3
      have z3 := hF.z 3
      have y4 := hF.k4
      have z4 := hF.z 4
      have hE := (hF.clear.left (n := -1) ⟨by decide, by decide⟩).die false
      dsimp only at hE y2 y3 y4
      go_wp2_with (fail)
      go_ret
      refine ⟨rfl, none, 0, hE, ?_, fun i e => by cases e⟩
      exact ((HBF.out.set (b := b) (.inl rfl) 2 none _).set (b := b) (.inl rfl) 3 none _).set (b := b) (.inl rfl) 4 none _
end
end Go.Proofs.Ytedhgejkobdihaa
