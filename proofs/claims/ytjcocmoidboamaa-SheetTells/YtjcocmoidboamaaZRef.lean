/-
  The document's own pages of records: key, page, fill, Chain, Link.
-/
import Derived.Test.YtjcocmoidboamaaZNum
import Derived.Test.YtjcocmoidboamaaYCalls
import Derived.Test.YtjcocmoidboamaaXQuiet
import Derived.Test.YtjcocmoidboamaaSLate
import Derived.Deep.DeepFit
import Derived.OwnWalk
import Derived.Deep.CutRange
import Derived.Deep.QuietTactic
import Derived.BigQuiet
namespace Go.Proofs.Ytjcocmoidboamaa
open Go Go.RowKit

theorem refkey_any (n : Int) (w : World) : Calls Try.prog 34 #[.int .i64 n] w fun e w' => e = .returned (.bool (keyB n)) ∧ w' = w := by
  obtain ⟨k, hk⟩ : ∃ k, keyB n = k := ⟨_, rfl⟩
  rw [hk]
  replace hk : Hid (keyB n = k) := hk
  go_enter Try.func34, Try.ntmps34
  go_wp2
  all_goals
    go_ret
    refine ⟨ret_bool ?_, rfl⟩
    rw [← hk.out]
    unfold keyB
    simp
    omega
theorem refpage_any (n : Int) (w : World) : Calls Try.prog 35 #[.int .i64 n] w fun e w' => e = .returned (.bool (pageB n)) ∧ w' = w := by
  obtain ⟨k, hk⟩ : ∃ k, pageB n = k := ⟨_, rfl⟩
  rw [hk]
  replace hk : Hid (pageB n = k) := hk
  go_enter Try.func35, Try.ntmps35
  go_wp2
  all_goals
    go_ret
    refine ⟨ret_bool ?_, rfl⟩
    rw [← hk.out]
    unfold pageB
    simp
    omega
/-- A list of bytes as a text. -/
def txt (l : List UInt8) : ByteArray := ⟨l.toArray⟩
theorem txt_size (l : List UInt8) : (txt l).size = l.length := by
  show l.toArray.size = _
  rw [List.size_toArray]
theorem txt_list (s : ByteArray) : txt s.data.toList = s := by
  apply ByteArray.ext
  simp [txt]
theorem list_txt (l : List UInt8) : (txt l).data.toList = l := rfl
theorem txt_append (a b : List UInt8) : txt a ++ txt b = txt (a ++ b) := by
  apply ByteArray.ext
  simp [txt]
theorem txt_inj {a b : List UInt8} (h : txt a = txt b) : a = b := by
  have := congrArg (fun s : ByteArray => s.data.toList) h
  exact this
theorem bigB_txt (v n : Nat) : bigB v n = txt (digs v n) := rfl
theorem zerosB_txt (n : Nat) : zerosB n = txt (List.replicate n 0) := rfl
theorem reffill_any (l : List UInt8) (h : l.length ≤ 128) (w : World) : Calls Try.prog 36 #[.string (txt l)] w fun e w' => e = .returned (.string (txt (padL l))) ∧ Grew w w' := by
  have hw : wrap64 (128 - (l.length : Int)) = 128 - l.length := IntWalk.wrap64_in _ ⟨by omega, by omega⟩
  have hz : Hid (∀ W, Calls Try.prog 44 #[.int .i64 (128 - (l.length : Int))] W fun e w' => e = .returned (.string (txt (List.replicate (128 - l.length) 0))) ∧ Grew W w') := fun W => by
    have := zeros_any W (128 - (l.length : Int)) (by omega) (by omega)
    rw [show (128 - (l.length : Int)).toNat = 128 - l.length by omega] at this
    exact this
  have hp : txt l ++ txt (List.replicate (128 - l.length) 0) = txt (padL l) := txt_append _ _
  have s1 := txt_size l
  have s2 : (txt (List.replicate (128 - l.length) 0)).size = 128 - l.length := by rw [txt_size, List.length_replicate]
  have hb : ¬ 9223372036854775807 < (txt l).size + (txt (List.replicate (128 - l.length) 0)).size := by rw [s1, s2]; omega
  rw [← hp]
  clear s2 hp
  generalize txt (List.replicate (128 - l.length) 0) = Z at *
  rw [← s1] at hw hz h
  clear s1
  generalize txt l = X at *
  go_enter Try.func36, Try.ntmps36
  go_wp2_with (first | (go_at_call 44; go_fit (hz.out _); rintro e w1 ⟨rfl, G⟩) | fail)
  go_ret
  exact ⟨rfl, G⟩
/-! ### Pieces -/
def chainV (next : Int) (t : List UInt8) : ByteArray := if chainOk next t then txt (chainL next t) else ByteArray.empty
theorem refchain_any (next : Int) (t : List UInt8) (w : World) : Calls Try.prog 17 #[.int .i64 next, .string (txt t)] w fun e w' => e = .returned (.tuple #[.string (chainV next t), .bool (chainOk next t)]) ∧ Grew w w' := by
  have st := txt_size t
  cases hk : chainOk next t with
  | false =>
    have hp : Hid (∀ W, _) := fun W => refpage_any next W
    unfold chainV
    rw [hk]
    have hn : (next = 0 ∨ 2 ≤ next ∧ next < 200) ∧ 1 ≤ t.length ∧ t.length ≤ 120 → False := fun e => by rw [(chainOk_iff next t).2 e] at hk; cases hk
    rw [← st] at hn
    generalize hq : pageB next = q at hp
    have hq' : q = true ↔ 2 ≤ next ∧ next < 200 := by rw [← hq]; exact pageB_iff next
    clear hk hq st
    generalize txt t = X at *
    replace hn : Hid _ := hn
    cases q with
    | true =>
      have hq2 := hq'.1 rfl
      clear hq'
      replace hq2 : Hid _ := hq2
      go_enter Try.func17, Try.ntmps17
      go_wp2_with (first | (go_at_call 35; go_fit (hp.out _); rintro e w1 ⟨rfl, rfl⟩) | fail)
      all_goals
        first
          | (go_ret2; exact ⟨rfl, Grew.refl _⟩)
          | (exfalso; have hq2 := hq2.out; exact hn.out ⟨by omega, by omega, by omega⟩)
    | false =>
      have hq2 : ¬ (2 ≤ next ∧ next < 200) := fun e => by have := hq'.2 e; cases this
      clear hq'
      replace hq2 : Hid _ := hq2
      go_enter Try.func17, Try.ntmps17
      go_wp2_with (first | (go_at_call 35; go_fit (hp.out _); rintro e w1 ⟨rfl, rfl⟩) | fail)
      all_goals
        first
          | (go_ret2; exact ⟨rfl, Grew.refl _⟩)
          | (exfalso; have hq2 := hq2.out; exact hn.out ⟨by omega, by omega, by omega⟩)
  | true =>
    have hh := (chainOk_iff next t).1 hk
    have hp : next ≠ 0 → Hid (∀ W, Calls Try.prog 35 #[.int .i64 next] W fun e w' => e = .returned (.bool true) ∧ w' = W) := fun h W => by
      have := refpage_any next W
      rw [(pageB_iff next).2 (by omega)] at this
      exact this
    have h1 : Hid (∀ W, Calls Try.prog 33 #[.int .i64 next, .int .i64 2] W fun e w' => e = .returned (.string (txt (digs next.toNat 2))) ∧ Grew W w') := fun W => by
      have := refbig_any next.toNat 2 (by omega) (by omega) W
      rw [show ((next.toNat : Nat) : Int) = next by omega] at this
      exact this
    have h2 : Hid (∀ W, Calls Try.prog 33 #[.int .i64 ((txt t).size : Int), .int .i64 1] W fun e w' => e = .returned (.string (txt (digs t.length 1))) ∧ Grew W w') := fun W => by
      rw [st]
      exact refbig_any t.length 1 (by omega) (by omega) W
    have h3 : Hid (∀ W, Calls Try.prog 36 #[.string ((⟨#[67]⟩ : ByteArray) ++ txt (digs next.toNat 2) ++ txt (digs t.length 1) ++ txt t)] W fun e w' => e = .returned (.string (txt (chainL next t))) ∧ Grew W w') := fun W => by
      rw [show (⟨#[67]⟩ : ByteArray) = txt [67] from rfl, txt_append, txt_append, txt_append]
      have e : [67] ++ digs next.toNat 2 ++ digs t.length 1 ++ t = chainH next t := by simp [chainH]
      rw [e]
      exact reffill_any _ (by rw [chainH_len]; omega) W
    have s1 : (txt (digs next.toNat 2)).size = 2 := by rw [txt_size, digs_len]
    have s2 : (txt (digs t.length 1)).size = 1 := by rw [txt_size, digs_len]
    have hv : chainV next t = txt (chainL next t) := if_pos hk
    rw [hv]
    rw [← st] at hh
    clear st hk hv
    generalize txt (chainL next t) = R at *
    generalize txt (digs next.toNat 2) = A at *
    generalize txt (digs t.length 1) = B at *
    generalize txt t = X at *
    have z1 : ¬ 9223372036854775807 < (⟨#[67]⟩ : ByteArray).size + A.size := by rw [s1]; decide
    have z2 : ¬ 9223372036854775807 < ((⟨#[67]⟩ : ByteArray) ++ A).size + B.size := by rw [ByteArray.size_append, s1, s2]; decide
    have z3 : ¬ 9223372036854775807 < ((⟨#[67]⟩ : ByteArray) ++ A ++ B).size + X.size := by rw [ByteArray.size_append, ByteArray.size_append, s1, s2]; have : (⟨#[67]⟩ : ByteArray).size = 1 := rfl; omega
    have n1 : ¬ (X.size : Int) < 1 := by omega
    have n2 : ¬ (120 : Int) < X.size := by omega
    clear hh
    by_cases h0 : next = 0
    · subst h0
      go_enter Try.func17, Try.ntmps17
      go_wp2_with (first
        | (go_at_call 33; go_fit (h1.out _); rintro e w1 ⟨rfl, G1⟩)
        | (go_at_call 33; go_fit (h2.out _); rintro e w2 ⟨rfl, G2⟩)
        | (go_at_call 36; go_fit (h3.out _); rintro e w3 ⟨rfl, G3⟩)
        | fail)
      go_ret2
      exact ⟨rfl, G1.trans (G2.trans G3)⟩
    · have hp := hp h0
      go_enter Try.func17, Try.ntmps17
      go_wp2_with (first
        | (go_at_call 35; go_fit (hp.out _); rintro e w1 ⟨rfl, rfl⟩)
        | (go_at_call 33; go_fit (h1.out _); rintro e w1 ⟨rfl, G1⟩)
        | (go_at_call 33; go_fit (h2.out _); rintro e w2 ⟨rfl, G2⟩)
        | (go_at_call 36; go_fit (h3.out _); rintro e w3 ⟨rfl, G3⟩)
        | fail)
      go_ret2
      exact ⟨rfl, G1.trans (G2.trans G3)⟩
/-! ### Link -/
def linkV (s : ByteArray) : Int × ByteArray := if isLink s.data.toList then (linkN s.data.toList, txt (linkT s.data.toList)) else (0, ByteArray.empty)
theorem at_take {s : ByteArray} {i : Nat} (h : i < s.size) : (s.data.toList.drop i).take 1 = [s[i]] := by
  have hl : i < s.data.toList.length := by rw [Array.length_toList]; exact h
  rw [List.drop_eq_getElem_cons hl, List.take_succ_cons, List.take_zero]
  rfl
theorem ext_list (s : ByteArray) (a b : Nat) : s.extract a b = txt ((s.data.toList.drop a).take (b - a)) := by
  apply ByteArray.ext
  apply Array.toList_inj.1
  simp only [ByteArray.data_extract, Array.toList_extract, List.extract_eq_take_drop, txt]
theorem numR_ext (s : ByteArray) (a b : Nat) : numR (s.extract a b) = wrap64 (valL ((s.data.toList.drop a).take (b - a))) := by rw [ext_list]; rfl
theorem link_cases (s : ByteArray) (h : s.size = 128) : ∃ c0 c3 : Nat, (∀ h, (s[0]'h).toNat = c0) ∧ (∀ h, (s[3]'h).toNat = c3) ∧ c0 < 256 ∧ c3 < 256 ∧ linkN s.data.toList = numR (s.extract 1 3) ∧ txt (linkT s.data.toList) = s.extract 4 (4 + c3) ∧
    isLink s.data.toList = (decide (c0 = 67) && decide (c3 ≤ 120) && (chainOk (linkN s.data.toList) (linkT s.data.toList) && decide (txt (chainL (linkN s.data.toList) (linkT s.data.toList)) = s))) := by
  have h0 := (s[0]'(by omega)).toNat_lt
  have h3 := (s[3]'(by omega)).toNat_lt
  have e3 : valL ((s.data.toList.drop 3).take 1) = (s[3]'(by omega)).toNat := by rw [at_take (by omega), val_one]
  have e0 : s.data.toList.take 1 = [s[0]'(by omega)] := by have := at_take (s := s) (i := 0) (by omega); rwa [List.drop_zero] at this
  refine ⟨(s[0]'(by omega)).toNat, (s[3]'(by omega)).toNat, fun _ => rfl, fun _ => rfl, h0, h3, ?_, ?_, ?_⟩
  · rw [numR_ext]; rfl
  · rw [ext_list, linkT, e3, Nat.add_sub_cancel_left]
  · have hl : s.data.toList.length = 128 := h
    unfold isLink
    rw [hl, e3, e0]
    have q1 : (([s[0]'(by omega)] : List UInt8) == [67]) = decide ((s[0]'(by omega)).toNat = 67) := by
      rw [Bool.eq_iff_iff]
      simp only [beq_iff_eq, List.cons.injEq, and_true, decide_eq_true_eq]
      constructor
      · intro e; rw [e]; rfl
      · intro e; exact UInt8.toNat_inj.1 e
    have q2 : (chainL (linkN s.data.toList) (linkT s.data.toList) == s.data.toList) = decide (txt (chainL (linkN s.data.toList) (linkT s.data.toList)) = s) := by
      rw [Bool.eq_iff_iff]
      simp only [beq_iff_eq, decide_eq_true_eq]
      constructor
      · intro e; rw [e, txt_list]
      · intro e; exact txt_inj (e.trans (txt_list s).symm)
    rw [q1, q2]
    simp
theorem bytes_ne' {a b : ByteArray} (h : ¬ a = b) : (a.toList == b.toList) = false := by
  rw [ByteArray.toList_eq, ByteArray.toList_eq]
  simp only [beq_eq_false_iff_ne, ne_eq]
  exact fun e => h (ByteArray.ext (Array.toList_inj.1 e))
theorem isLink_len {s : ByteArray} (h : ¬ s.size = 128) : isLink s.data.toList = false := by
  cases e : isLink s.data.toList with
  | false => rfl
  | true => exact absurd (isLink_128 e) h
set_option maxHeartbeats 1000000 in
theorem reflink_any (s : ByteArray) (w : World) : Calls Try.prog 24 #[.string s] w fun e w' => e = .returned (.tuple #[.int .i64 (linkV s).1, .string (linkV s).2, .bool (isLink s.data.toList)]) ∧ Grew w w' := by
  unfold linkV
  by_cases h : s.size = 128
  · obtain ⟨c0, c3, g0, g3, l0, l3, eN, eT, eL⟩ := link_cases s h
    have hi : (s.size : Int) = 128 := by omega
    by_cases n0 : c0 = 67
    · by_cases n3 : 120 < c3
      · have e : isLink s.data.toList = false := by rw [eL]; simp; omega
        rw [e]
        clear e eL eN eT h
        have n3' : (120 : Int) < c3 := by omega
        subst n0
        go_enter Try.func24, Try.ntmps24
        go_wp2
        go_ret3
        exact ⟨rfl, Grew.refl _⟩
      · have n3' : ¬ (120 : Int) < c3 := by omega
        have hC : Hid (∀ W, _) := fun W => refchain_any (linkN s.data.toList) (linkT s.data.toList) W
        have hO : Hid (∀ W, _) := fun W => of_any (s.extract 1 3) W (by rw [ByteArray.size_extract]; omega)
        have eL' : isLink s.data.toList = (chainOk (linkN s.data.toList) (linkT s.data.toList) && decide (txt (chainL (linkN s.data.toList) (linkT s.data.toList)) = s)) := by rw [eL, n0]; simp; omega
        rw [eT] at hC ⊢
        rw [eN] at hC eL' ⊢
        have hv : chainV (numR (s.extract 1 3)) (linkT s.data.toList) = if chainOk (numR (s.extract 1 3)) (linkT s.data.toList) then txt (chainL (numR (s.extract 1 3)) (linkT s.data.toList)) else ByteArray.empty := rfl
        rw [hv] at hC
        generalize txt (chainL (numR (s.extract 1 3)) (linkT s.data.toList)) = X at *
        generalize chainOk (numR (s.extract 1 3)) (linkT s.data.toList) = k at *
        generalize numR (s.extract 1 3) = N at *
        rw [eL']
        subst n0
        clear eL eL' eN eT hv h
        have b1 : (4 : Int) + c3 ≤ 128 := by omega
        have b2 : wrap64 (4 + (c3 : Int)) = 4 + c3 := IntWalk.wrap64_in _ ⟨by omega, by omega⟩
        cases k with
        | false =>
          rw [if_neg (by decide)] at hC
          go_enter Try.func24, Try.ntmps24
          go_upto_region 3 with (fail)
          go_quiet (first | (go_at_call 41; exact Calls.quiet_of_same (hO.out _)) | fail)
          go_wp2_with (first | (go_at_call 17; go_fit (hC.out _); rintro e w1 ⟨rfl, G⟩) | fail)
          go_ret3
          exact ⟨rfl, ((Grew.refl w).drewN _).trans G⟩
        | true =>
          rw [if_pos rfl] at hC
          by_cases hX : X = s
          · subst hX
            simp only [decide_true, Bool.and_self, if_true]
            go_enter Try.func24, Try.ntmps24
            go_upto_region 3 with (fail)
            go_quiet (first | (go_at_call 41; exact Calls.quiet_of_same (hO.out _)) | fail)
            go_wp2_with (first | (go_at_call 17; go_fit (hC.out _); rintro e w1 ⟨rfl, G⟩) | fail)
            go_ret3
            exact ⟨rfl, ((Grew.refl w).drewN _).trans G⟩
          · have hne := bytes_ne' hX
            rw [decide_eq_false hX]
            clear hX
            simp only [Bool.and_false]
            go_enter Try.func24, Try.ntmps24
            go_upto_region 3 with (fail)
            go_quiet (first | (go_at_call 41; exact Calls.quiet_of_same (hO.out _)) | fail)
            go_wp2_with (first | (go_at_call 17; go_fit (hC.out _); rintro e w1 ⟨rfl, G⟩) | fail)
            go_ret3
            exact ⟨rfl, ((Grew.refl w).drewN _).trans G⟩
    · have e : isLink s.data.toList = false := by rw [eL]; simp [n0]
      rw [e]
      clear e eL eN eT h
      have n0' : ¬ (c0 : Int) = 67 := by omega
      clear n0
      go_enter Try.func24, Try.ntmps24
      go_wp2
      go_ret3
      exact ⟨rfl, Grew.refl _⟩
  · have hi : ¬ (s.size : Int) = 128 := by omega
    have e := isLink_len h
    rw [e]
    clear e h
    go_enter Try.func24, Try.ntmps24
    go_wp2
    go_ret3
    exact ⟨rfl, Grew.refl _⟩
end Go.Proofs.Ytjcocmoidboamaa
