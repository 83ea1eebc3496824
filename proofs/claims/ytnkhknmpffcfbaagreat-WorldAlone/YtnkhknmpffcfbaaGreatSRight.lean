/-
  Which worlds may be: what package world's own looks answer; nothing that was there is written.
-/
import Derived.Test.YtnkhknmpffcfbaaGreatSMem
import Derived.Test.YtnkhknmpffcfbaaGreatBCalls
import Derived.Deep.QuietTactic
import Derived.BigQuiet
import Derived.Deep.CutRange
import Derived.Deep.CutBlock
namespace Go.Proofs.YtnkhknmpffcfbaaGreat
open Go.RowKit

theorem all_bd {L : List Bd} (h : ∀ j, j < L.length → rightB (bd L j) = true) : L.all rightB = true := by
  rw [List.all_eq_true]
  intro x hx
  obtain ⟨i, hi, rfl⟩ := List.mem_iff_getElem.1 hx
  have := h i hi
  rw [show bd L i = L[i] by simp [bd, List.getD, hi]] at this
  exact this
theorem not_bd {L : List Bd} {k : Nat} (hk : k < L.length) (h : rightB (bd L k) = false) : L.all rightB = false := by
  rw [List.all_eq_false]
  exact ⟨_, bd_mem hk, by rw [h]; decide⟩
theorem all_jt {J : List Jt} {n : Nat} (h : ∀ j, j < J.length → rightJ n (jt J j) = true) : J.all (rightJ n) = true := by
  rw [List.all_eq_true]
  intro x hx
  obtain ⟨i, hi, rfl⟩ := List.mem_iff_getElem.1 hx
  have := h i hi
  rw [show jt J i = J[i] by simp [jt, List.getD, hi]] at this
  exact this
theorem not_jt {J : List Jt} {n k : Nat} (hk : k < J.length) (h : rightJ n (jt J k) = false) : J.all (rightJ n) = false := by
  rw [List.all_eq_false]
  exact ⟨_, jt_mem hk, by rw [h]; decide⟩
theorem upto_more {p : Nat → Prop} {k : Nat} (h : ∀ j, j < k → p j) (g : p k) : ∀ j, j < k + 1 → p j := by
  intro j hj
  by_cases e : j = k
  · rw [e]; exact g
  · exact h j (by omega)

set_option maxHeartbeats 2000000 in
theorem rightbodies_any (L : List Bd) (a : Option Addr) (cap : Nat) (w : World) (hL : Bodies w a L) (hn : L.length ≤ 1000) :
    Calls Tryz.prog 20 #[.slice a L.length cap] w fun e w' => e = .returned (.bool (L.all rightB)) ∧ Grew w w' := by
  go_enter Tryz.func20, Tryz.ntmps20
  go_wp2_with (fail)
  go_loopw [7] (fun i wr => ∃ k : Nat, k ≤ L.length ∧ i = .int .i64 k ∧ Grew w wr ∧ Hid (∀ j, j < k → rightB (bd L j) = true)) (fun i _ => L.length - (intOf i).toNat)
  case atStart => exact ⟨0, by omega, rfl, Grew.refl w, fun j hj => by omega⟩
  case round =>
    obtain ⟨k, hk, rfl, hG, hall⟩ := hrel
    by_cases hlt : k < L.length
    · have hi : (k : Int) < (L.length : Int) := by omega
      obtain ⟨b, off, rfl, hc⟩ := hL.block hlt
      obtain ⟨c0, c1, c2, c3, c4, c5, c6, c7⟩ := hc.grew hG
      obtain ⟨r, hr⟩ : ∃ r, rightB (bd L k) = r := ⟨_, rfl⟩
      have HR : Hid (∀ W, Calls Tryz.prog 39 #[(bd L k).val] W fun e w' => e = .returned (.bool r) ∧ Grew W w') := fun W => by rw [← hr]; exact shape_right (bd L k) W
      have HB : Hid (rightB (bd L k) = r) := hr
      clear hr hc
      unfold Bd.val at HR
      obtain ⟨B, eB⟩ : ∃ B, bd L k = B := ⟨_, rfl⟩
      rw [eB] at c0 c1 c2 c3 c4 c5 c6 c7 HR
      clear eB
      have G2 : Hid (∀ c, Grew w (wr.alloc (.cells c 39))) := fun c => hG.alloc c _
      cases r
      · go_wp2_with (first
          | (go_at_call 39; go_fit (HR.out _); rintro e V ⟨rfl, U⟩))
        go_ret
        exact ⟨ret_bool (not_bd hlt HB.out).symm, (G2.out _).trans U⟩
      · go_wp2_with (first
          | (go_at_call 39; go_fit (HR.out _); rintro e V ⟨rfl, U⟩))
        refine ⟨⟨k + 1, by omega, rfl, (G2.out _).trans U, upto_more hall.out HB.out⟩, ?_⟩
        simp [intOf]; omega
    · have hi : ¬ (k : Int) < (L.length : Int) := by omega
      obtain rfl : k = L.length := by omega
      have HA : Hid (L.all rightB = true) := all_bd hall.out
      clear hall
      go_wp2_with (fail)
      go_ret
      exact ⟨ret_bool HA.out.symm, hG⟩

def placeB (i n : Int) : Bool := decide (0 ≤ i ∧ i < n)
theorem place_any (i n : Int) (w : World) : Calls Tryz.prog 40 #[.int .i64 i, .int .i64 n] w fun e w' => e = .returned (.bool (placeB i n)) ∧ w' = w := by
  unfold placeB
  by_cases h : 0 ≤ i <;> by_cases g : i < n
  all_goals
    go_enter Tryz.func40, Tryz.ntmps40
    go_wp2_with (fail)
    go_ret
    exact ⟨ret_bool (by simp [h, g]), rfl⟩
theorem rightpull_any (x : Int) (w : World) : Calls Tryz.prog 41 #[.int .i64 x] w fun e w' => e = .returned (.bool (rightG x)) ∧ w' = w := by
  unfold rightG
  by_cases h : -4294967296000 ≤ x <;> by_cases g : x ≤ 4294967296000
  all_goals
    go_enter Tryz.func41, Tryz.ntmps41
    go_wp2_with (fail)
    go_ret
    exact ⟨ret_bool (by simp [h, g]), rfl⟩
theorem rightgravity_any (x y : Int) (w : World) : Calls Tryz.prog 22 #[vec x y] w fun e w' => e = .returned (.bool (rightG x && rightG y)) ∧ Grew w w' := by
  have H1 : Hid (∀ x W, Calls Tryz.prog 41 #[.int .i64 x] W fun e w' => e = .returned (.bool (rightG x)) ∧ w' = W) := rightpull_any
  have G : Hid (∀ c, Grew w (w.alloc (.cells c 24))) := fun c => (Grew.refl w).alloc c _
  unfold vec
  by_cases h : rightG x = true
  all_goals
    go_enter Tryz.func22, Tryz.ntmps22
    go_wp2_with (first
      | (go_at_call 41; go_fit (H1.out _ _); rintro e V ⟨rfl, rfl⟩))
    go_ret
    exact ⟨ret_bool (by simp [h]), G.out _⟩

theorem rightJ_eq (n : Nat) (j : Jt) : rightJ n j = (placeB j.a n && (placeB j.b n && (!decide (j.a = j.b) && (!decide (j.n < 0) && !decide (4294967296000 < j.n))))) := by
  unfold rightJ placeB
  rw [Bool.eq_iff_iff]
  simp
  omega

set_option maxHeartbeats 4000000 in
theorem rightjoints_any (J : List Jt) (n : Nat) (a : Option Addr) (cap : Nat) (w : World) (hJ : Joints w a J) (hn : J.length ≤ 1000) :
    Calls Tryz.prog 21 #[.slice a J.length cap, .int .i64 n] w fun e w' => e = .returned (.bool (J.all (rightJ n))) ∧ Grew w w' := by
  have H1 : Hid (∀ i (n : Nat) W, Calls Tryz.prog 40 #[.int .i64 i, .int .i64 n] W fun e w' => e = .returned (.bool (placeB i n)) ∧ w' = W) := fun i n W => place_any i n W
  go_enter Tryz.func21, Tryz.ntmps21
  go_wp2_with (fail)
  go_loopw [9] (fun i wr => ∃ k : Nat, k ≤ J.length ∧ i = .int .i64 k ∧ Grew w wr ∧ Hid (∀ j, j < k → rightJ n (jt J j) = true)) (fun i _ => J.length - (intOf i).toNat)
  case atStart => exact ⟨0, by omega, rfl, Grew.refl w, fun j hj => by omega⟩
  case round =>
    obtain ⟨k, hk, rfl, hG, hall⟩ := hrel
    by_cases hlt : k < J.length
    · have hi : (k : Int) < (J.length : Int) := by omega
      obtain ⟨b, off, rfl, hc⟩ := hJ.block hlt
      obtain ⟨c0, c1, c2⟩ := hc.grew hG
      have HB : Hid (rightJ n (jt J k) = (placeB (jt J k).a n && (placeB (jt J k).b n && (!decide ((jt J k).a = (jt J k).b) && (!decide ((jt J k).n < 0) && !decide (4294967296000 < (jt J k).n)))))) := rightJ_eq _ _
      have HN : Hid (rightJ n (jt J k) = false → J.all (rightJ n) = false) := not_jt hlt
      have HM : Hid (rightJ n (jt J k) = true → ∀ j, j < k + 1 → rightJ n (jt J j) = true) := fun g => upto_more hall.out g
      clear hall hc
      obtain ⟨R, eR⟩ : ∃ R, rightJ n (jt J k) = R := ⟨_, rfl⟩
      rw [eR] at HB HN HM
      obtain ⟨j, ej⟩ : ∃ j, jt J k = j := ⟨_, rfl⟩
      rw [ej] at c0 c1 c2 HB
      clear ej eR
      have G2 : Hid (∀ c, Grew w (wr.alloc (.cells c 62))) := fun c => hG.alloc c _
      by_cases h1 : placeB j.a n = true
      rotate_left
      · go_wp2_with (first
          | (go_at_call 40; go_fit (H1.out _ _ _); rintro e V ⟨rfl, rfl⟩))
        go_ret
        exact ⟨ret_bool (HN.out (by rw [HB.out]; simp [h1])).symm, G2.out _⟩
      by_cases h2 : placeB j.b n = true
      rotate_left
      · go_wp2_with (first
          | (go_at_call 40; go_fit (H1.out _ _ _); rintro e V ⟨rfl, rfl⟩))
        go_ret
        exact ⟨ret_bool (HN.out (by rw [HB.out]; simp [h2])).symm, G2.out _⟩
      by_cases h3 : j.a = j.b
      · go_wp2_with (first
          | (go_at_call 40; go_fit (H1.out _ _ _); rintro e V ⟨rfl, rfl⟩))
        go_ret
        exact ⟨ret_bool (HN.out (by rw [HB.out]; simp [h3])).symm, G2.out _⟩
      by_cases h4 : j.n < 0
      · go_wp2_with (first
          | (go_at_call 40; go_fit (H1.out _ _ _); rintro e V ⟨rfl, rfl⟩))
        go_ret
        exact ⟨ret_bool (HN.out (by rw [HB.out]; simp [h4])).symm, G2.out _⟩
      by_cases h5 : 4294967296000 < j.n
      · go_wp2_with (first
          | (go_at_call 40; go_fit (H1.out _ _ _); rintro e V ⟨rfl, rfl⟩))
        go_ret
        exact ⟨ret_bool (HN.out (by rw [HB.out]; simp [h5])).symm, G2.out _⟩
      have h6 : (j.a == j.b) = false := by simpa using h3
      have HT : Hid (R = true) := by show R = true; rw [HB.out]; simp [h1, h2, h3, h4, h5]
      clear h3
      go_wp2_with (first
        | (go_at_call 40; go_fit (H1.out _ _ _); rintro e V ⟨rfl, rfl⟩))
      refine ⟨⟨k + 1, by omega, rfl, G2.out _, HM.out HT.out⟩, ?_⟩
      simp [intOf]; omega
    · have hi : ¬ (k : Int) < (J.length : Int) := by omega
      obtain rfl : k = J.length := by omega
      have HA : Hid (J.all (rightJ n) = true) := all_jt hall.out
      clear hall
      go_wp2_with (fail)
      go_ret
      exact ⟨ret_bool HA.out.symm, hG⟩

/-- A world as the code has it. -/
def worldV (x y : Int) (a : Option Addr) (n c : Nat) (b : Option Addr) (m d : Nat) : Value := .agg #[.int .i64 x, .int .i64 y, .slice a n c, .slice b m d]
set_option maxHeartbeats 2000000 in
theorem right_any (x y : Int) (L : List Bd) (J : List Jt) (a : Option Addr) (c : Nat) (b : Option Addr) (d : Nat) (w : World) (hL : Bodies w a L) (hJ : Joints w b J) (hn : L.length ≤ 1000) (hm : J.length ≤ 1000) :
    Calls Tryz.prog 11 #[worldV x y a L.length c b J.length d] w fun e w' => e = .returned (.bool (rightW x y L J)) ∧ Grew w w' := by
  have G : Hid (∀ c, Grew w (w.alloc (.cells c 29))) := fun c => (Grew.refl w).alloc c _
  have H1 : Hid (∀ W, Grew w W → Calls Tryz.prog 20 #[.slice a L.length c] W fun e w' => e = .returned (.bool (L.all rightB)) ∧ Grew W w') := fun W g => rightbodies_any L a c W (hL.grew g) hn
  have H2 : Hid (∀ W, Grew w W → Calls Tryz.prog 21 #[.slice b J.length d, .int .i64 L.length] W fun e w' => e = .returned (.bool (J.all (rightJ L.length))) ∧ Grew W w') := fun W g => rightjoints_any J L.length b d W (hJ.grew g) hm
  have H3 : Hid (∀ W, Calls Tryz.prog 22 #[vec x y] W fun e w' => e = .returned (.bool (rightG x && rightG y)) ∧ Grew W w') := fun W => rightgravity_any x y W
  unfold worldV rightW
  unfold vec at H3
  generalize L.all rightB = p at *
  generalize J.all (rightJ L.length) = q at *
  generalize (rightG x && rightG y) = r at *
  cases p
  · go_enter Tryz.func11, Tryz.ntmps11
    go_wp2_with (first
      | (go_at_call 20; go_fit (H1.out _ (G.out _)); rintro e V ⟨rfl, U⟩))
    go_ret
    exact ⟨ret_bool rfl, (G.out _).trans U⟩
  cases q
  · go_enter Tryz.func11, Tryz.ntmps11
    go_wp2_with (first
      | (go_at_call 20; go_fit (H1.out _ (G.out _)); rintro e V ⟨rfl, U⟩; have G1 : Hid (Grew w V) := (G.out _).trans U; have k0 := U.cell (p := ⟨w.heap.size, 2, none⟩) (v := .slice a L.length c) (by simp [go_sem]); have k1 := U.cell (p := ⟨w.heap.size, 3, none⟩) (v := .slice b J.length d) (by simp [go_sem]))
      | (go_at_call 21; go_fit (H2.out _ G1.out); rintro e V2 ⟨rfl, U2⟩))
    go_ret
    exact ⟨ret_bool rfl, G1.out.trans U2⟩
  go_enter Tryz.func11, Tryz.ntmps11
  go_wp2_with (first
    | (go_at_call 20; go_fit (H1.out _ (G.out _)); rintro e V ⟨rfl, U⟩; have G1 : Hid (Grew w V) := (G.out _).trans U; have k0 := U.cell (p := ⟨w.heap.size, 2, none⟩) (v := .slice a L.length c) (by simp [go_sem]); have k1 := U.cell (p := ⟨w.heap.size, 3, none⟩) (v := .slice b J.length d) (by simp [go_sem]); have k2 := U.cell (p := ⟨w.heap.size, 0, none⟩) (v := .int .i64 x) (by simp [go_sem]); have k3 := U.cell (p := ⟨w.heap.size, 1, none⟩) (v := .int .i64 y) (by simp [go_sem]))
    | (go_at_call 21; go_fit (H2.out _ G1.out); rintro e V2 ⟨rfl, U2⟩; have k4 := U2.cell k2; have k5 := U2.cell k3)
    | (go_at_call 22; go_fit (H3.out _); rintro e V3 ⟨rfl, U3⟩))
  go_ret
  exact ⟨ret_bool rfl, (G1.out.trans U2).trans U3⟩
end Go.Proofs.YtnkhknmpffcfbaaGreat
