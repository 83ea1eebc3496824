/-
  Stage 16's Plan of one record whose pieces are not alike: so many pages as there are pieces, and two. No program in sight.
-/
import Derived.Test.YtbkkhafckkndfaaPxMMore
namespace Go.Proofs.Ytbkkhafckkndfaa
open Go Go.RowKit

def longL (n : Nat) : List UInt8 := (List.range n).map fun (i : Nat) => UInt8.ofNat (i / 120)
theorem longL_len (n : Nat) : (longL n).length = n := by simp [longL]
theorem longL_get (n k : Nat) (h : k < n) : (longL n)[k]? = some (UInt8.ofNat (k / 120)) := by simp [longL, h]
theorem piece_head (n j : Nat) (h : j * 120 < n) : (pieceL (txt (longL n)) j)[0]? = some (UInt8.ofNat j) := by
  have e : pieceL (txt (longL n)) j = ((longL n).take (min ((j + 1) * 120) (txt (longL n)).size)).drop (j * 120) := by
    unfold pieceL
    rw [ByteArray.data_extract, Array.toList_extract]
    simp [txt, List.extract]
    rw [List.drop_take]
  rw [e, List.getElem?_drop, txt_size, longL_len, List.getElem?_take, if_pos (by omega), longL_get _ _ (by omega)]
  congr 1
  rw [Nat.add_zero, Nat.mul_div_cancel _ (by decide)]
theorem pieces_dif (n : Nat) (hn : n ≤ 900) (i j : Nat) (hij : i < j) (hj : j < npc (txt (longL n))) (h24 : 24 < n) : pieceL (txt (longL n)) i ≠ pieceL (txt (longL n)) j := by
  unfold npc at hj
  rw [txt_size, longL_len] at hj
  intro e
  have h1 := piece_head n i (by omega)
  rw [e, piece_head n j (by omega)] at h1
  have h2 := congrArg (fun x => x.map UInt8.toNat) h1
  simp at h2
  omega
theorem pgs_long : PgsIn [] ⟨[], numsT 198⟩ := by
  refine ⟨fun x hx => absurd hx (by simp), fun x hx => absurd hx (by simp), fun n hn => ?_⟩
  simp only [numsT, List.mem_map, List.mem_range] at hn
  obtain ⟨k, hk, rfl⟩ := hn
  rw [pageB_iff]
  omega
theorem long_need (n : Nat) (hn : n ≤ 900) : needN [⟨5, txt (longL n)⟩] = if 24 < n then 2 + (n + 119) / 120 else 2 := by
  have hsz : (txt (longL n)).size = n := by rw [txt_size, longL_len]
  have hr : recsOk [⟨5, txt (longL n)⟩] = true := by
    simp [recsOk, reOk, List.range_succ, keyB, hsz, hn]
  have hl : (lvs [⟨5, txt (longL n)⟩]).1 = 1 := by
    have hc := cz_le ⟨5, txt (longL n)⟩
    simp only [lvs, List.foldl_cons, List.foldl_nil, lvStep]
    rw [if_pos (by omega)]
  have hcost : costs [⟨5, txt (longL n)⟩] ≤ 8 := by
    simp only [costs, List.map_cons, List.map_nil, List.sum_cons, List.sum_nil, costR, npc, hsz]
    split <;> omega
  obtain ⟨O, root, hp⟩ := plan_enough (L := [⟨5, txt (longL n)⟩]) (H := []) (F := numsT 198) hr pgs_long (by rw [numsT_len]; omega)
  have hneed : needN [⟨5, txt (longL n)⟩] = O.length := by
    unfold needN
    rw [if_pos ⟨hr, by omega⟩, hp]
  obtain ⟨C, s, h1, h2⟩ := plan_count hp hr pgs_long
  rw [hneed, h2, hl]
  rw [goR] at h1
  cases e : stepR [] ([], ⟨[], numsT 198⟩) ⟨5, txt (longL n)⟩ with
  | none => rw [e] at h1; cases h1
  | some r =>
    rw [e, Option.bind_some] at h1
    simp only [goR, Option.some.injEq] at h1
    subst h1
    unfold stepR at e
    dsimp only at e
    rw [hsz] at e
    by_cases hz : n ≤ 24
    · rw [if_pos hz] at e
      simp only [Option.some.injEq, Prod.mk.injEq] at e
      obtain ⟨_, rfl⟩ := e
      rw [if_neg (by omega)]
      rfl
    · rw [if_neg hz] at e
      cases e1 : goC [] (txt (longL n)) (npc (txt (longL n))) 0 ⟨[], numsT 198⟩ with
      | none => rw [e1] at e; cases e
      | some r =>
        obtain ⟨m, s2⟩ := r
        rw [e1] at e
        simp only [Option.map_some, Option.some.injEq, Prod.mk.injEq] at e
        obtain ⟨_, rfl⟩ := e
        have := goC_count (b := txt (longL n)) (by omega) (fun i j hij hj => pieces_dif n hn i j hij hj (by omega)) _ 0 _ _ _ (Nat.le_refl _) (.inl rfl) pgs_long (fun x hx => absurd hx (by simp)) e1
        rw [this, if_pos (by omega)]
        unfold npc
        rw [hsz]
        simp
        omega
end Go.Proofs.Ytbkkhafckkndfaa
