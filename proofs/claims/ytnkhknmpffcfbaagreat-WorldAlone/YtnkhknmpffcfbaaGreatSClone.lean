/-
  What slices.Clone does of bodies and joints, and world.copied of a world: the same in slices of their own; nothing that was there is written.
-/
import Derived.Test.YtnkhknmpffcfbaaGreatSRight
import Derived.Test.YtnkhknmpffcfbaaGreatUApp
import Derived.Test.YtnkhknmpffcfbaaGreatSLate
namespace Go.Proofs.YtnkhknmpffcfbaaGreat
open Go Go.RowKit

theorem body_info : (Tryz.prog.info? 39).map (fun i => (i.zero, i.size, i.bytes)) = some (some (.agg #[.int .i64 0, .int .i64 0, .int .i64 0, .int .i64 0, .int .i64 0, .int .i64 0, .int .i64 0, .int .i64 0]), 8, 64) := by kernel_rfl
theorem joint_info : (Tryz.prog.info? 62).map (fun i => (i.zero, i.size, i.bytes)) = some (some (.agg #[.int .i64 0, .int .i64 0, .int .i64 0]), 3, 24) := by kernel_rfl
theorem bodies_reads {w : World} {a : Option Addr} {L : List Bd} (h : Bodies w a L) : Reads w a (L.flatMap Bd.row) := by
  rcases h.at' with e | ⟨b, off, e, k⟩
  · left; rw [e]; rfl
  · refine .inr ⟨b, off, e, fun j u hj => ?_⟩
    have hlt : j < L.length * 8 := by
      have := (List.getElem?_eq_some_iff.1 hj).1
      rw [flat_len Bd.row 8 (fun _ => rfl)] at this
      exact this
    have h1 := flat_at Bd.row 8 (fun _ => rfl) L (j / 8) _ (bd_get (by omega)) (j % 8) (by omega)
    rw [show j / 8 * 8 + j % 8 = j by omega] at h1
    rw [h1] at hj
    obtain ⟨c0, c1, c2, c3, c4, c5, c6, c7⟩ := k (j / 8) (by omega)
    obtain ⟨r, hr⟩ : ∃ r, j % 8 = r := ⟨_, rfl⟩
    have e : off + j = off + j / 8 * 8 + r := by omega
    rw [e]
    rw [hr] at hj
    have hr8 : r < 8 := by omega
    match r, hr8, hj with
    | 0, _, hj => rw [← hj]; exact c0
    | 1, _, hj => rw [← hj]; exact c1
    | 2, _, hj => rw [← hj]; exact c2
    | 3, _, hj => rw [← hj]; exact c3
    | 4, _, hj => rw [← hj]; exact c4
    | 5, _, hj => rw [← hj]; exact c5
    | 6, _, hj => rw [← hj]; exact c6
    | 7, _, hj => rw [← hj]; exact c7
theorem joints_reads {w : World} {a : Option Addr} {J : List Jt} (h : Joints w a J) : Reads w a (J.flatMap Jt.row) := by
  rcases h.at' with e | ⟨b, off, e, k⟩
  · left; rw [e]; rfl
  · refine .inr ⟨b, off, e, fun j u hj => ?_⟩
    have hlt : j < J.length * 3 := by
      have := (List.getElem?_eq_some_iff.1 hj).1
      rw [flat_len Jt.row 3 (fun _ => rfl)] at this
      exact this
    have h1 := flat_at Jt.row 3 (fun _ => rfl) J (j / 3) _ (jt_get (by omega)) (j % 3) (by omega)
    rw [show j / 3 * 3 + j % 3 = j by omega] at h1
    rw [h1] at hj
    obtain ⟨c0, c1, c2⟩ := k (j / 3) (by omega)
    obtain ⟨r, hr⟩ : ∃ r, j % 3 = r := ⟨_, rfl⟩
    have e : off + j = off + j / 3 * 3 + r := by omega
    rw [e]
    rw [hr] at hj
    have hr3 : r < 3 := by omega
    match r, hr3, hj with
    | 0, _, hj => rw [← hj]; exact c0
    | 1, _, hj => rw [← hj]; exact c1
    | 2, _, hj => rw [← hj]; exact c2
theorem one_body : ∀ (L : List Bd), ∀ u ∈ L.flatMap Bd.row, u.oneCell' = true := by
  intro L u hu
  obtain ⟨B, _, h⟩ := List.mem_flatMap.1 hu
  simp [Bd.row] at h
  rcases h with rfl | rfl | rfl | rfl | rfl | rfl | rfl | rfl <;> rfl
theorem one_joint : ∀ (J : List Jt), ∀ u ∈ J.flatMap Jt.row, u.oneCell' = true := by
  intro L u hu
  obtain ⟨B, _, h⟩ := List.mem_flatMap.1 hu
  simp [Jt.row] at h
  rcases h with rfl | rfl | rfl <;> rfl

/-- What a row of one's own is, in a block that is known. -/
theorem own_of_row {w : World} {base d n c : Nat} {a : Option Addr} {L : List Bd} (h : w.ownsRow base 39 8 (.slice a n c) n (L.flatMap Bd.row)) (hn : L.length = n) (hok : ∀ z ∈ L, z.ok) (hd2 : d < w.heap.size) : ∃ g, Own w base a g c L ∧ (g = d ∨ base ≤ g) ∧ g < w.heap.size := by
  subst hn
  have h2 := h
  rcases h.2 with ⟨e, h0⟩ | ⟨g, cap, cur, e, hb, hg, r⟩
  · simp only [Value.slice.injEq] at e
    obtain ⟨rfl, _, rfl⟩ := e
    exact ⟨d, ⟨hok, h2, .inl ⟨rfl, List.eq_nil_of_length_eq_zero h0⟩⟩, .inl rfl, hd2⟩
  · cases e
    exact ⟨g, ⟨hok, h2, .inr rfl⟩, .inr hb, (Array.getElem?_eq_some_iff.1 hg).1⟩
theorem joints_of_row {w : World} {base n c : Nat} {a : Option Addr} {J : List Jt} (h : w.ownsRow base 62 3 (.slice a n c) n (J.flatMap Jt.row)) (hn : J.length = n) (hok : ∀ z ∈ J, z.ok) : Joints w a J ∧ ∀ z off, a = some ⟨z, off, none⟩ → base ≤ z := by
  subst hn
  rcases h.2 with ⟨e, h0⟩ | ⟨g, cap, cur, e, hb, hg, r⟩
  · simp only [Value.slice.injEq] at e
    obtain ⟨rfl, _, rfl⟩ := e
    exact ⟨⟨hok, .inl (List.eq_nil_of_length_eq_zero h0)⟩, fun _ _ e => by cases e⟩
  · cases e
    refine ⟨⟨hok, .inr ⟨g, 0, rfl, fun i hi => ?_⟩⟩, fun _ _ e => by cases e; exact hb⟩
    have k : ∀ c, c < 3 → w.cell? ⟨g, i * 3 + c, none⟩ = ((jt J i).row)[c]? := fun c hc => by
      rw [h.cellAt _ (by omega), flat_at Jt.row 3 (fun _ => rfl) J i _ (jt_get hi) c hc]
    rw [Nat.zero_add]
    exact ⟨k 0 (by omega), k 1 (by omega), k 2 (by omega)⟩

theorem none_bodies (n c : Nat) (w : World) : (binOp .eql 25 (.slice none n c) (.slice none 0 0)).run Tryz.prog w = .ok (.bool true) w := by
  have hu := run_underlying Tryz.underlying25 w
  have hd : ∀ t x y, Op.equal t x y = Op.equalIn (9999 + 1) t x y := fun _ _ _ => rfl
  simp only [binOp, hd]
  rw [Op.equalIn]
  simp [go_sem, hu]
theorem some_bodies (p : Addr) (n c : Nat) (w : World) : (binOp .eql 25 (.slice (some p) n c) (.slice none 0 0)).run Tryz.prog w = .ok (.bool false) w := by
  have hu := run_underlying Tryz.underlying25 w
  have hd : ∀ t x y, Op.equal t x y = Op.equalIn (9999 + 1) t x y := fun _ _ _ => rfl
  simp only [binOp, hd]
  rw [Op.equalIn]
  simp [go_sem, hu]
theorem none_joints (n c : Nat) (w : World) : (binOp .eql 26 (.slice none n c) (.slice none 0 0)).run Tryz.prog w = .ok (.bool true) w := by
  have hu := run_underlying Tryz.underlying26 w
  have hd : ∀ t x y, Op.equal t x y = Op.equalIn (9999 + 1) t x y := fun _ _ _ => rfl
  simp only [binOp, hd]
  rw [Op.equalIn]
  simp [go_sem, hu]
theorem some_joints (p : Addr) (n c : Nat) (w : World) : (binOp .eql 26 (.slice (some p) n c) (.slice none 0 0)).run Tryz.prog w = .ok (.bool false) w := by
  have hu := run_underlying Tryz.underlying26 w
  have hd : ∀ t x y, Op.equal t x y = Op.equalIn (9999 + 1) t x y := fun _ _ _ => rfl
  simp only [binOp, hd]
  rw [Op.equalIn]
  simp [go_sem, hu]

set_option maxRecDepth 10000 in
theorem cloneb_any (L : List Bd) (a : Option Addr) (cap : Nat) (w : World) (hL : Bodies w a L) (hn : L.length ≤ 1000) :
    Calls Tryz.prog 51 #[.slice a L.length cap] w fun e w' => (∃ v, e = .returned v ∧ w'.ownsRow w.heap.size 39 8 v L.length (L.flatMap Bd.row)) ∧ Below w.heap.size w w' := by
  obtain ⟨i0, hi0, hz0, hz1, hz2⟩ := info_parts body_info
  cases a with
  | none =>
    obtain rfl : L = [] := by
      rcases hL.at' with e | ⟨_, _, e, _⟩
      · exact e
      · cases e
    go_enter Tryz.func51, Tryz.ntmps51
    have hnn := none_bodies
    go_wp2_with (fail)
    go_ret
    exact ⟨⟨_, rfl, World.ownsRow_nil _ _ _ _⟩, Below.refl _ _⟩
  | some p =>
    have HR : Hid (∀ c, Reads (w.alloc (.cells c 39)) (some p) (L.flatMap Bd.row)) := fun c => (bodies_reads hL).below (Go.RowKit.Below.alloc (Below.refl _ _) (Nat.le_refl _) _)
    clear hL
    have hns := some_bodies
    go_enter Tryz.func51, Tryz.ntmps51
    go_wp2_with (first
      | (at_builtin; refine wpList_app _ rfl (.tmp 5) (.tmp 6) 25 rfl w.heap.size 39 i0 _ 8 64 Tryz.underlying25 hi0 hz0 hz1 hz2 rfl (by decide) _ 0 [] rfl (World.ownsRow_made w #[] 0 (Nat.le_refl _) (by unfold maxLen; omega) rfl) (some p) L.length cap (L.flatMap Bd.row) rfl (flat_len Bd.row 8 (fun _ => rfl) L) (HR.out _) (one_body L) (by unfold maxLen; omega) (by omega) (by simp) ?_; intro v1 w1 ho1 hg1 _ _))
    go_ret
    rw [Nat.zero_add, List.nil_append] at ho1
    exact ⟨⟨_, rfl, ho1⟩, (Go.RowKit.Below.alloc (Below.refl _ _) (Nat.le_refl _) _).grown hg1 (by simp) (fun k h => by simp [Value.ownBlock, Act.eval] at h; omega)⟩
set_option maxRecDepth 10000 in
theorem clonej_any (L : List Jt) (a : Option Addr) (cap : Nat) (w : World) (hL : Joints w a L) (hn : L.length ≤ 1000) :
    Calls Tryz.prog 52 #[.slice a L.length cap] w fun e w' => (∃ v, e = .returned v ∧ w'.ownsRow w.heap.size 62 3 v L.length (L.flatMap Jt.row)) ∧ Below w.heap.size w w' := by
  obtain ⟨i0, hi0, hz0, hz1, hz2⟩ := info_parts joint_info
  cases a with
  | none =>
    obtain rfl : L = [] := by
      rcases hL.at' with e | ⟨_, _, e, _⟩
      · exact e
      · cases e
    go_enter Tryz.func52, Tryz.ntmps52
    have hnn := none_joints
    go_wp2_with (fail)
    go_ret
    exact ⟨⟨_, rfl, World.ownsRow_nil _ _ _ _⟩, Below.refl _ _⟩
  | some p =>
    have HR : Hid (∀ c, Reads (w.alloc (.cells c 62)) (some p) (L.flatMap Jt.row)) := fun c => (joints_reads hL).below (Go.RowKit.Below.alloc (Below.refl _ _) (Nat.le_refl _) _)
    clear hL
    have hns := some_joints
    go_enter Tryz.func52, Tryz.ntmps52
    go_wp2_with (first
      | (at_builtin; refine wpList_app _ rfl (.tmp 5) (.tmp 6) 26 rfl w.heap.size 62 i0 _ 3 24 Tryz.underlying26 hi0 hz0 hz1 hz2 rfl (by decide) _ 0 [] rfl (World.ownsRow_made w #[] 0 (Nat.le_refl _) (by unfold maxLen; omega) rfl) (some p) L.length cap (L.flatMap Jt.row) rfl (flat_len Jt.row 3 (fun _ => rfl) L) (HR.out _) (one_joint L) (by unfold maxLen; omega) (by omega) (by simp) ?_; intro v1 w1 ho1 hg1 _ _))
    go_ret
    rw [Nat.zero_add, List.nil_append] at ho1
    exact ⟨⟨_, rfl, ho1⟩, (Go.RowKit.Below.alloc (Below.refl _ _) (Nat.le_refl _) _).grown hg1 (by simp) (fun k h => by simp [Value.ownBlock, Act.eval] at h; omega)⟩
end Go.Proofs.YtnkhknmpffcfbaaGreat
