import Derived.Test.YtlneoecgbbbahaaGreatDoorHsC
import Derived.Test.YtlneoecgbbbahaaGreatDoorHb9
namespace Go.Proofs.Hs
open Go Go.Ev
set_option linter.unusedSimpArgs false

/-! ## Both say the same of a string -/
theorem dig_sign (b : UInt8) : dig b = sign b.toNat := rfl
theorem nDig_app : ∀ (l : List Nat) (r : List UInt8), (∀ d, d ∈ l → d < 10) → nDig (l.map B ++ r) = l.length + nDig r
  | [], r, _ => by simp
  | d :: l, r, h => by
    have hd : dig (B d) = true := by rw [dig_sign]; exact sign_B (h d (by simp))
    simp only [List.map_cons, List.cons_append, nDig, hd, cond_true, List.length_cons]
    rw [nDig_app l r fun x hx => h x (by simp [hx])]
    omega
theorem nDig_take : ∀ (s : List UInt8), ∀ b, b ∈ s.take (nDig s) → dig b = true
  | [], b, h => by simp at h
  | x :: r, b, h => by
    simp only [nDig] at h
    cases hx : dig x with
    | false => rw [hx] at h; simp at h
    | true =>
      rw [hx, cond_true, List.take_succ_cons] at h
      rcases List.mem_cons.1 h with rfl | h
      · exact hx
      · exact nDig_take r b h
theorem numD_text {l : List Nat} {n : Nat} (h : Whole l n) : numD (l.map B) = (n : Int) := by
  cases h with
  | one a ha => simp only [numD, List.map_cons, List.map_nil, List.foldl_cons, List.foldl_nil, B_nat ha]; omega
  | two a b _ ha hb => simp only [numD, List.map_cons, List.map_nil, List.foldl_cons, List.foldl_nil, B_nat ha, B_nat hb]; omega
  | three a b c _ ha hb hc => simp only [numD, List.map_cons, List.map_nil, List.foldl_cons, List.foldl_nil, B_nat ha, B_nat hb, B_nat hc]; omega
  | four a b c d _ ha hb hc hd => simp only [numD, List.map_cons, List.map_nil, List.foldl_cons, List.foldl_nil, B_nat ha, B_nat hb, B_nat hc, B_nat hd]; omega

theorem whole_head {l : List Nat} {n : Nat} (h : Whole l n) (r : List UInt8) : (decide ((1 : Int) < (l.length : Int)) && decide ((((l.map B ++ r)[0]?.getD 0).toNat : Int) = 48)) = false := by
  cases h with
  | one a ha => rfl
  | two a b h1 ha hb =>
    have : ((B a).toNat : Int) ≠ 48 := by rw [B_nat ha]; omega
    simp [this]
  | three a b c h1 ha hb hc =>
    have : ((B a).toNat : Int) ≠ 48 := by rw [B_nat ha]; omega
    simp [this]
  | four a b c d h1 ha hb hc hd =>
    have : ((B a).toNat : Int) ≠ 48 := by rw [B_nat ha]; omega
    simp [this]

theorem refV_text {l : List Nat} {n : Nat} (h : Whole l n) (e : Nat) (he : e < 8) : refV (textOf l e) = 8 * (n : Int) + e := by
  have hs := h.small
  obtain ⟨hl1, hl4⟩ := h.len
  have hlen : (l.map B).length = l.length := List.length_map ..
  unfold textOf
  by_cases h0 : e = 0
  · subst h0
    rw [if_pos rfl, List.append_nil]
    have hn : nDig (l.map B) = l.length := by
      have := nDig_app l [] hs
      simpa [nDig] using this
    have hsh : shapeL (l.map B) = ((l.length : Int), false, true) := by
      unfold shapeL
      rw [hn, hlen, show inB (l.length : Int) 1 4 = true from by unfold inB; simp; omega, cond_true, decide_eq_true rfl, cond_true]
    have hh := whole_head h []
    rw [List.append_nil] at hh
    unfold refV
    rw [hsh]
    simp only [Bool.not_true, cond_false]
    rw [hh, cond_false, hn, List.take_of_length_le (by omega), numD_text h]
    omega
  · rw [if_neg h0]
    have hn : nDig (l.map B ++ [47, B e]) = l.length := by
      have := nDig_app l [47, B e] hs
      rw [this]
      rfl
    have hg0 : (l.map B ++ [47, B e])[l.length]? = some 47 := by
      rw [List.getElem?_append_right (by omega), hlen, Nat.sub_self]; rfl
    have hg1 : (l.map B ++ [47, B e])[l.length + 1]? = some (B e) := by
      rw [List.getElem?_append_right (by omega), hlen, show l.length + 1 - l.length = 1 from by omega]; rfl
    have hll : (l.map B ++ [47, B e]).length = l.length + 2 := by rw [List.length_append, hlen]; rfl
    have hde : dig (B e) = true := by rw [dig_sign]; exact sign_B (by omega)
    have hsh : shapeL (l.map B ++ [47, B e]) = ((l.length : Int), true, true) := by
      unfold shapeL
      rw [hn, hll, hg0, hg1, Option.getD_some, Option.getD_some, hde, show inB (l.length : Int) 1 4 = true from by unfold inB; simp; omega, cond_true]
      rw [decide_eq_false (by omega), cond_false, decide_eq_true (by omega)]
      rfl
    have hh := whole_head h [47, B e]
    unfold refV
    rw [hsh]
    simp only [Bool.not_true, cond_false, cond_true]
    rw [hh, cond_false, hn, hg1, Option.getD_some, B_nat (by omega)]
    rw [show inB ((48 + e : Nat) : Int) 49 55 = true from by unfold inB; simp; omega, cond_true]
    rw [List.take_left' hlen, numD_text h]
    omega

theorem text_of_ref {s : List UInt8} (hs : 0 ≤ refV s) : ∃ l n e, Whole l n ∧ e < 8 ∧ s = textOf l e := by
  unfold refV at hs
  cases h1 : (shapeL s).2.2 with
  | false => rw [h1, Bool.not_false, cond_true] at hs; omega
  | true =>
  rw [h1, Bool.not_true, cond_false] at hs
  obtain ⟨hn1, hn2, hn3, hn4⟩ := shape_true h1
  rw [hn1] at hs
  have hnl := nDig_le s
  obtain ⟨ds, hds, hdb⟩ := all_B (s.take (nDig s)) (fun b hb => by have := nDig_take s b hb; rwa [dig_sign] at this)
  have hdl : ds.length = nDig s := by
    have := congrArg List.length hdb
    rw [List.length_take, List.length_map] at this
    omega
  have hsplit : s = ds.map B ++ s.drop (nDig s) := by rw [← hdb, List.take_append_drop]
  -- the figures have no 0 ahead
  have hw : (decide ((1 : Int) < (nDig s : Int)) && decide (((s[0]?.getD 0).toNat : Int) = 48)) = false → ∃ n, Whole ds n := by
    intro hh
    have h0 : s[0]? = (ds.map B)[0]? := by
      rw [hsplit, List.getElem?_append_left (by rw [List.length_map]; omega)]
    rw [h0] at hh
    match ds, hds, hdl with
    | [a], hds, _ => exact ⟨_, .one a (hds a (by simp))⟩
    | [a, b], hds, hdl =>
      have ha := hds a (by simp)
      refine ⟨_, .two a b ?_ ha (hds b (by simp))⟩
      have h2 : (1 : Int) < (nDig s : Int) := by simp at hdl; omega
      rw [decide_eq_true h2, Bool.true_and] at hh
      have : ((B a).toNat : Int) ≠ 48 := by simpa using hh
      rw [B_nat ha] at this; omega
    | [a, b, c], hds, hdl =>
      have ha := hds a (by simp)
      refine ⟨_, .three a b c ?_ ha (hds b (by simp)) (hds c (by simp))⟩
      have h2 : (1 : Int) < (nDig s : Int) := by simp at hdl; omega
      rw [decide_eq_true h2, Bool.true_and] at hh
      have : ((B a).toNat : Int) ≠ 48 := by simpa using hh
      rw [B_nat ha] at this; omega
    | [a, b, c, d], hds, hdl =>
      have ha := hds a (by simp)
      refine ⟨_, .four a b c d ?_ ha (hds b (by simp)) (hds c (by simp)) (hds d (by simp))⟩
      have h2 : (1 : Int) < (nDig s : Int) := by simp at hdl; omega
      rw [decide_eq_true h2, Bool.true_and] at hh
      have : ((B a).toNat : Int) ≠ 48 := by simpa using hh
      rw [B_nat ha] at this; omega
    | [], _, hdl => simp at hdl; omega
    | _ :: _ :: _ :: _ :: _ :: _, _, hdl => simp at hdl; omega
  cases hh : (decide ((1 : Int) < (nDig s : Int)) && decide (((s[0]?.getD 0).toNat : Int) = 48)) with
  | true => rw [hh, cond_true] at hs; omega
  | false =>
    rw [hh, cond_false] at hs
    obtain ⟨n, hwh⟩ := hw hh
    unfold shapeL at h1 hs
    cases hi : inB (nDig s : Int) 1 4 with
    | false => rw [hi] at h1; cases h1
    | true =>
      rw [hi, cond_true] at h1 hs
      by_cases hl : (nDig s : Int) = (s.length : Int)
      · refine ⟨ds, n, 0, hwh, by omega, ?_⟩
        rw [List.drop_of_length_le (by omega)] at hsplit
        unfold textOf
        rw [if_pos rfl]
        exact hsplit
      · rw [decide_eq_false hl, cond_false] at h1 hs
        simp only [Bool.and_eq_true, decide_eq_true_eq] at h1
        simp only [cond_true] at hs
        obtain ⟨b0, hb0⟩ : ∃ b, s[nDig s]? = some b := ⟨s[nDig s]'(by omega), List.getElem?_eq_getElem _⟩
        obtain ⟨b1, hb1⟩ : ∃ b, s[nDig s + 1]? = some b := ⟨s[nDig s + 1]'(by omega), List.getElem?_eq_getElem _⟩
        rw [hb0, hb1, Option.getD_some, Option.getD_some] at h1
        rw [hb1, Option.getD_some] at hs
        cases hin : inB (b1.toNat : Int) 49 55 with
        | false => rw [hin, cond_false] at hs; omega
        | true =>
          have hin2 : 49 ≤ (b1.toNat : Int) ∧ (b1.toNat : Int) ≤ 55 := by
            unfold inB at hin
            simpa using hin
          obtain ⟨d, hd, rfl⟩ := of_sign (b := b1) (by rw [← dig_sign]; exact h1.2.2)
          rw [B_nat hd] at hin2
          refine ⟨ds, n, d, hwh, by omega, ?_⟩
          have h47 : b0 = 47 := by
            apply UInt8.toNat_inj.1
            have := h1.2.1
            show b0.toNat = 47
            omega
          have hdrop : s.drop (nDig s) = [47, B d] := by
            obtain ⟨e1, e2⟩ := List.getElem?_eq_some_iff.1 hb0
            obtain ⟨e3, e4⟩ := List.getElem?_eq_some_iff.1 hb1
            rw [List.drop_eq_getElem_cons e1, e2, List.drop_eq_getElem_cons e3, e4, List.drop_of_length_le (by omega), h47]
          rw [hdrop] at hsplit
          unfold textOf
          rw [if_neg (by omega)]
          exact hsplit

theorem ref_val (s : List UInt8) : (refV s < 0 ∧ valL s = (0, 4)) ∨ (0 ≤ refV s ∧ valL s = (refV s, 0)) := by
  cases hp : (ptL s).2 with
  | true =>
    obtain ⟨l, n, e, h1, h2, rfl⟩ := text_back s hp
    right
    rw [refV_text h1 e h2, val_textOf h1 e h2]
    exact ⟨by omega, rfl⟩
  | false =>
    have hv : valL s = (0, 4) := by unfold valL; rw [hp, cond_false]
    left
    refine ⟨?_, hv⟩
    by_cases h : 0 ≤ refV s
    · obtain ⟨l, n, e, h1, h2, rfl⟩ := text_of_ref h
      rw [val_textOf h1 e h2] at hv
      have h04 : (0 : Int) = 4 := congrArg Prod.snd hv
      omega
    · omega
end Go.Proofs.Hs
