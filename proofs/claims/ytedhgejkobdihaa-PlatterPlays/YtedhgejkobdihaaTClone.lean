/-
  What slices.Clone does of pages and of writes: the same in slices of their own; nothing that was there is written.
-/
import Derived.Test.YtedhgejkobdihaaTCalls
import Derived.Test.YtedhgejkobdihaaTBuild
import Derived.Test.YtedhgejkobdihaaSLate
namespace Go.Proofs.Ytedhgejkobdihaa
open Go Go.RowKit

theorem own_be {w w' : World} {B n k : Nat} {E : TypeId} {v : Value} {xs : List Value} (h : w.ownsRow B E k v n xs) (g : Below w.heap.size w w') : w'.ownsRow B E k v n xs :=
  row_but (S := fun _ => False) h (Go.Proofs.Ytedhgejkobdihaa.Below.but g) (fun _ _ e => e)
theorem none_pages (n c : Nat) (w : World) : (binOp .eql 47 (.slice none n c) (.slice none 0 0)).run Try.prog w = .ok (.bool true) w := by
  have hu := run_underlying Try.underlying47 w
  have hd : ∀ t x y, Op.equal t x y = Op.equalIn (9999 + 1) t x y := fun _ _ _ => rfl
  simp only [binOp, hd]
  rw [Op.equalIn]
  simp [go_sem, hu]
theorem some_pages (p : Addr) (n c : Nat) (w : World) : (binOp .eql 47 (.slice (some p) n c) (.slice none 0 0)).run Try.prog w = .ok (.bool false) w := by
  have hu := run_underlying Try.underlying47 w
  have hd : ∀ t x y, Op.equal t x y = Op.equalIn (9999 + 1) t x y := fun _ _ _ => rfl
  simp only [binOp, hd]
  rw [Op.equalIn]
  simp [go_sem, hu]
theorem none_writes (n c : Nat) (w : World) : (binOp .eql 48 (.slice none n c) (.slice none 0 0)).run Try.prog w = .ok (.bool true) w := by
  have hu := run_underlying Try.underlying48 w
  have hd : ∀ t x y, Op.equal t x y = Op.equalIn (9999 + 1) t x y := fun _ _ _ => rfl
  simp only [binOp, hd]
  rw [Op.equalIn]
  simp [go_sem, hu]
theorem some_writes (p : Addr) (n c : Nat) (w : World) : (binOp .eql 48 (.slice (some p) n c) (.slice none 0 0)).run Try.prog w = .ok (.bool false) w := by
  have hu := run_underlying Try.underlying48 w
  have hd : ∀ t x y, Op.equal t x y = Op.equalIn (9999 + 1) t x y := fun _ _ _ => rfl
  simp only [binOp, hd]
  rw [Op.equalIn]
  simp [go_sem, hu]

set_option maxRecDepth 10000 in
theorem clonep_any (p : Addr) (cap m : Nat) (xs : List Value) (w : World) (hR : Reads w (some p) xs) (hl : xs.length = m * 128) (h1 : ∀ u ∈ xs, u.oneCell' = true) (hn : m ≤ 1000) :
    Calls Try.prog 26 #[.slice (some p) m cap] w fun e w' => (∃ v, e = .returned v ∧ w'.ownsRow w.heap.size 55 128 v m xs) ∧ Below w.heap.size w w' := by
  obtain ⟨iw, zw, i1, i2, i3, i4, i5⟩ := infoPage
  have HR : Hid (∀ c, Reads (w.alloc (.cells c 55)) (some p) xs) := fun c => hR.below (Go.RowKit.Below.alloc (Below.refl _ _) (Nat.le_refl _) _)
  have Hz : Hid (zw.size = 128) := by show zw.size = 128; rw [← Array.length_toList, i3]; simp
  clear hR i3
  have hns := some_pages
  go_enter Try.func26, Try.ntmps26
  go_wp2_with (first
    | (at_builtin; refine wpList_app _ rfl (.tmp 5) (.tmp 6) 47 rfl w.heap.size 55 iw _ 128 128 Try.underlying47 i1 i2 i4 i5 Hz.out (by decide) _ 0 [] rfl (World.ownsRow_made w #[] 0 (Nat.le_refl _) (by unfold maxLen; omega) rfl) (some p) m cap xs rfl hl (HR.out _) h1 (by unfold maxLen; omega) (by omega) (by simp) ?_; intro v1 w1 ho1 hg1 _ _))
  go_ret
  rw [Nat.zero_add, List.nil_append] at ho1
  exact ⟨⟨_, rfl, ho1⟩, (Go.RowKit.Below.alloc (Below.refl _ _) (Nat.le_refl _) _).grown hg1 (by simp) (fun k h => by simp [Value.ownBlock, Act.eval] at h; omega)⟩
set_option maxRecDepth 10000 in
theorem clonew_any (a : Option Addr) (cap m : Nat) (xs : List Value) (w : World) (hR : Reads w a xs) (hl : xs.length = m * 129) (h1 : ∀ u ∈ xs, u.oneCell' = true) (hn : m ≤ 1000000) (ha : a = none → m = 0) :
    Calls Try.prog 27 #[.slice a m cap] w fun e w' => (∃ v, e = .returned v ∧ w'.ownsRow w.heap.size 57 129 v m xs) ∧ Below w.heap.size w w' := by
  obtain ⟨iw, zw, i1, i2, i3, i4, i5⟩ := infoWr
  cases a with
  | none =>
    obtain rfl : m = 0 := ha rfl
    obtain rfl : xs = [] := List.eq_nil_of_length_eq_zero (by rw [hl])
    go_enter Try.func27, Try.ntmps27
    have hnn := none_writes
    go_wp2_with (fail)
    go_ret
    exact ⟨⟨_, rfl, World.ownsRow_nil _ _ _ _⟩, Below.refl _ _⟩
  | some p =>
    have HR : Hid (∀ c, Reads (w.alloc (.cells c 57)) (some p) xs) := fun c => hR.below (Go.RowKit.Below.alloc (Below.refl _ _) (Nat.le_refl _) _)
    have Hz : Hid (zw.size = 129) := by show zw.size = 129; rw [← Array.length_toList, i3]; simp
    clear hR i3 ha
    have hns := some_writes
    go_enter Try.func27, Try.ntmps27
    go_wp2_with (first
      | (at_builtin; refine wpList_app _ rfl (.tmp 5) (.tmp 6) 48 rfl w.heap.size 57 iw _ 129 136 Try.underlying48 i1 i2 i4 i5 Hz.out (by decide) _ 0 [] rfl (World.ownsRow_made w #[] 0 (Nat.le_refl _) (by unfold maxLen; omega) rfl) (some p) m cap xs rfl hl (HR.out _) h1 (by unfold maxLen; omega) (by omega) (by simp) ?_; intro v1 w1 ho1 hg1 _ _))
    go_ret
    rw [Nat.zero_add, List.nil_append] at ho1
    exact ⟨⟨_, rfl, ho1⟩, (Go.RowKit.Below.alloc (Below.refl _ _) (Nat.le_refl _) _).grown hg1 (by simp) (fun k h => by simp [Value.ownBlock, Act.eval] at h; omega)⟩

section
variable {P : Program} {ops : Array Oper} {Q : Exit → Act → World → Prop} {md : Region.Mode} {A S : World → Prop} {D : List Nat}
theorem lat_three {i k m : Nat} {n : Nat} {l : Array Bool} {a : Act} {w : World} (hr : Region.ready md ops l = [i, k, m]) (h : LatStep P md ops Q A S D n l a w i) (g : LatStep P md ops Q A S D n l a w k) (f : LatStep P md ops Q A S D n l a w m) : wpLat P md ops Q A S D (n + 1) l a w := by
  refine ⟨fun e => absurd (e.symm.trans hr) (by simp), fun j hj => ?_⟩
  rw [hr] at hj
  rcases List.mem_cons.1 hj with rfl | hj
  · exact h
  · rcases List.mem_cons.1 hj with rfl | hj
    · exact g
    · obtain rfl := List.mem_singleton.1 hj
      exact f
end
end Go.Proofs.Ytedhgejkobdihaa
