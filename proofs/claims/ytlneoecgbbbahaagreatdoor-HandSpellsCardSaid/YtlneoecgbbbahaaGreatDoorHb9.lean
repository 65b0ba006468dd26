import Derived.Test.YtlneoecgbbbahaaGreatDoorHb7
import Derived.Lib.IndexBytes
/- Values and texts: each value has just one text. -/
namespace Go.Proofs
open Go Go.Ev


theorem sign_slash {b : UInt8} (h : sign b.toNat = true) : (b == 47) = false := by
  simp only [sign, Bool.and_eq_true, decide_eq_true_eq] at h
  refine Bool.eq_false_iff.2 fun e => ?_
  have : b = 47 := by simpa using e
  subst this
  have : (47 : UInt8).toNat = 47 := rfl
  omega

theorem ib_none : ∀ (w : List UInt8), (∀ b ∈ w, (b == 47) = false) → Lib.indexByte w 47 = -1
  | [], _ => rfl
  | b :: w, h => by
    have h1 := h b (by simp)
    have ih := ib_none w fun b hb => h b (by simp [hb])
    simp only [Lib.indexByte, h1, ih]
    rfl
theorem ib_hit : ∀ (w p : List UInt8), (∀ b ∈ w, (b == 47) = false) → Lib.indexByte (w ++ 47 :: p) 47 = w.length
  | [], p, _ => rfl
  | b :: w, p, h => by
    have h1 := h b (by simp)
    have ih := ib_hit w p fun b hb => h b (by simp [hb])
    simp only [List.cons_append, Lib.indexByte, h1, ih, List.length_cons]
    have : (((w.length : Nat) : Int) == -1) = false := by
      refine Bool.eq_false_iff.2 fun e => ?_
      have : ((w.length : Nat) : Int) = -1 := eq_of_beq e
      omega
    rw [this]
    simp

theorem cut_none (w : List UInt8) (h : ∀ b ∈ w, (b == 47) = false) : Lib.cut w slashB = (w, [], false) := by
  unfold Lib.cut slashB
  rw [Lib.index_one, ib_none w h, if_neg (by decide)]
theorem cut_hit (w p : List UInt8) (h : ∀ b ∈ w, (b == 47) = false) : Lib.cut (w ++ 47 :: p) slashB = (w, p, true) := by
  unfold Lib.cut slashB
  rw [Lib.index_one, ib_hit w p h, if_pos (by omega)]
  simp only [Int.toNat_natCast, List.take_left', List.length_cons, List.length_nil]
  rw [List.drop_append]
  simp

/-- What was cut can be put together again. -/
theorem cut_back : ∀ (s : List UInt8), ((Lib.cut s slashB).2.2 = true → s = (Lib.cut s slashB).1 ++ 47 :: (Lib.cut s slashB).2.1) ∧ ((Lib.cut s slashB).2.2 = false → s = (Lib.cut s slashB).1 ∧ (Lib.cut s slashB).2.1 = []) := by
  intro s
  by_cases h : ∃ w p, s = w ++ 47 :: p ∧ ∀ b ∈ w, (b == (47 : UInt8)) = false
  · obtain ⟨w, p, rfl, hw⟩ := h
    rw [cut_hit w p hw]
    exact ⟨fun _ => rfl, fun e => by cases e⟩
  · have hn : ∀ b ∈ s, (b == (47 : UInt8)) = false := by
      intro b hb
      refine Bool.eq_false_iff.2 fun e => h ?_
      have hb47 : b = 47 := by simpa using e
      subst hb47
      clear h e
      induction s with
      | nil => cases hb
      | cons c r ih =>
        by_cases hc : c = 47
        · exact ⟨[], r, by rw [hc]; rfl, by simp⟩
        · have hr : (47 : UInt8) ∈ r := by
            rcases List.mem_cons.1 hb with e | e
            · exact absurd e.symm hc
            · exact e
          obtain ⟨w, p, e, hw⟩ := ih hr
          refine ⟨c :: w, p, by rw [e]; rfl, fun b hb => ?_⟩
          cases hb with
          | head => simpa using hc
          | tail _ hb => exact hw b hb
    rw [cut_none s hn]
    exact ⟨fun e => (by cases e), fun _ => ⟨rfl, rfl⟩⟩

/-! ## Figures -/
def B (d : Nat) : UInt8 := UInt8.ofNat (48 + d)
theorem B_nat {d : Nat} (h : d < 10) : (B d).toNat = 48 + d := by
  unfold B
  rw [UInt8.toNat_ofNat']
  omega
theorem fig_B {d : Nat} (h : d < 10) : fig (B d) = (d : Int) := by unfold fig; rw [B_nat h]; omega
theorem sign_B {d : Nat} (h : d < 10) : sign (B d).toNat = true := by
  simp only [sign, B_nat h, Bool.and_eq_true, decide_eq_true_eq]; omega
theorem of_sign {b : UInt8} (h : sign b.toNat = true) : ∃ d, d < 10 ∧ b = B d := by
  simp only [sign, Bool.and_eq_true, decide_eq_true_eq] at h
  refine ⟨b.toNat - 48, by omega, ?_⟩
  unfold B
  rw [show 48 + (b.toNat - 48) = b.toNat by omega, UInt8.ofNat_toNat]
theorem B_slash {d : Nat} (h : d < 10) : (B d == 47) = false := sign_slash (sign_B h)

theorem dec1 {n : Nat} (h : n < 10) : Lib.decDigits n = [B n] := Lib.decDigits_one h
theorem dec_step {n : Nat} (h : ¬ n < 10) : Lib.decDigits n = Lib.decDigits (n / 10) ++ [B (n % 10)] := by rw [Lib.decDigits, dif_neg h]; rfl
theorem dec2 (a b : Nat) (ha : 1 ≤ a) (ha' : a < 10) (hb : b < 10) : Lib.decDigits (10 * a + b) = [B a, B b] := by
  rw [dec_step (by omega), show (10 * a + b) / 10 = a by omega, show (10 * a + b) % 10 = b by omega, dec1 ha']; rfl
theorem dec3 (a b c : Nat) (ha : 1 ≤ a) (ha' : a < 10) (hb : b < 10) (hc : c < 10) : Lib.decDigits (100 * a + 10 * b + c) = [B a, B b, B c] := by
  rw [dec_step (by omega), show (100 * a + 10 * b + c) / 10 = 10 * a + b by omega, show (100 * a + 10 * b + c) % 10 = c by omega, dec2 a b ha ha' hb]; rfl
theorem dec4 (a b c d : Nat) (ha : 1 ≤ a) (ha' : a < 10) (hb : b < 10) (hc : c < 10) (hd : d < 10) : Lib.decDigits (1000 * a + 100 * b + 10 * c + d) = [B a, B b, B c, B d] := by
  rw [dec_step (by omega), show (1000 * a + 100 * b + 10 * c + d) / 10 = 100 * a + 10 * b + c by omega, show (1000 * a + 100 * b + 10 * c + d) % 10 = d by omega, dec3 a b c ha ha' hb hc]; rfl

/-- The figures before the slash, without a 0 ahead. -/
inductive Whole : List Nat → Nat → Prop
  | one (a : Nat) (ha : a < 10) : Whole [a] a
  | two (a b : Nat) (h : 1 ≤ a) (ha : a < 10) (hb : b < 10) : Whole [a, b] (10 * a + b)
  | three (a b c : Nat) (h : 1 ≤ a) (ha : a < 10) (hb : b < 10) (hc : c < 10) : Whole [a, b, c] (100 * a + 10 * b + c)
  | four (a b c d : Nat) (h : 1 ≤ a) (ha : a < 10) (hb : b < 10) (hc : c < 10) (hd : d < 10) : Whole [a, b, c, d] (1000 * a + 100 * b + 10 * c + d)

theorem Whole.dec {l : List Nat} {n : Nat} (h : Whole l n) : Lib.decDigits n = l.map B := by
  cases h with
  | one a ha => exact dec1 ha
  | two a b h ha hb => exact dec2 a b h ha hb
  | three a b c h ha hb hc => exact dec3 a b c h ha hb hc
  | four a b c d h ha hb hc hd => exact dec4 a b c d h ha hb hc hd
theorem Whole.lt {l : List Nat} {n : Nat} (h : Whole l n) : n < 10000 := by cases h <;> omega
theorem Whole.len {l : List Nat} {n : Nat} (h : Whole l n) : 1 ≤ l.length ∧ l.length ≤ 4 := by cases h <;> simp
theorem Whole.small {l : List Nat} {n : Nat} (h : Whole l n) : ∀ d, d ∈ l → d < 10 := by
  cases h <;> simp <;> omega
theorem whole_of (n : Nat) (h : n < 10000) : ∃ l, Whole l n := by
  by_cases h1 : n < 10
  · exact ⟨_, .one n h1⟩
  by_cases h2 : n < 100
  · have := Whole.two (n / 10) (n % 10) (by omega) (by omega) (by omega)
    rw [show 10 * (n / 10) + n % 10 = n by omega] at this
    exact ⟨_, this⟩
  by_cases h3 : n < 1000
  · have := Whole.three (n / 100) (n / 10 % 10) (n % 10) (by omega) (by omega) (by omega) (by omega)
    rw [show 100 * (n / 100) + 10 * (n / 10 % 10) + n % 10 = n by omega] at this
    exact ⟨_, this⟩
  · have := Whole.four (n / 1000) (n / 100 % 10) (n / 10 % 10) (n % 10) (by omega) (by omega) (by omega) (by omega) (by omega)
    rw [show 1000 * (n / 1000) + 100 * (n / 100 % 10) + 10 * (n / 10 % 10) + n % 10 = n by omega] at this
    exact ⟨_, this⟩

/-- The text of whole figures, and of eighths. -/
def textOf (l : List Nat) (e : Nat) : List UInt8 := l.map B ++ (if e = 0 then [] else [47, B e])
def figs5 (l : List Nat) (e : Nat) : List Int := l.map (fun d : Nat => (d : Int)) ++ List.replicate (4 - l.length) (-1) ++ [if e = 0 then -1 else (e : Int)]

theorem mapB_fig (l : List Nat) (h : ∀ d, d ∈ l → d < 10) : (l.map B).map fig = l.map fun d : Nat => (d : Int) := by
  rw [List.map_map]
  exact List.map_congr_left fun d hd => fig_B (h d hd)
theorem mapB_sign (l : List Nat) (h : ∀ d, d ∈ l → d < 10) : ((l.map B).all fun b => sign b.toNat) = true := by
  rw [List.all_eq_true]
  intro b hb
  obtain ⟨d, hd, rfl⟩ := List.mem_map.1 hb
  exact sign_B (h d hd)
theorem mapB_slash (l : List Nat) (h : ∀ d, d ∈ l → d < 10) : ∀ b ∈ l.map B, (b == 47) = false := by
  intro b hb
  obtain ⟨d, hd, rfl⟩ := List.mem_map.1 hb
  exact B_slash (h d hd)

theorem parse_textOf {l : List Nat} {n : Nat} (h : Whole l n) (e : Nat) (he : e < 8) : parseL (textOf l e) = (figs5 l e, true) := by
  obtain ⟨h1, h4⟩ := h.len
  have hs := h.small
  unfold parseL textOf
  by_cases h0 : e = 0
  · rw [if_pos h0, List.append_nil, cut_none _ (mapB_slash l hs)]
    have : okParts (l.map B) [] false = true := by
      simp only [okParts, List.length_map, List.append_nil, mapB_sign l hs, Bool.not_false, Bool.true_or, Bool.and_true, Bool.and_eq_true, Bool.not_eq_true', decide_eq_false_iff_not, decide_eq_true_eq]
      omega
    simp only [parse3, this, cond_true, figsOf, mapB_fig l hs, List.length_map, figs5, h0, if_true]
    rfl
  · rw [if_neg h0, cut_hit _ _ (mapB_slash l hs)]
    have : okParts (l.map B) [B e] true = true := by
      simp only [okParts, List.length_map, List.all_append, mapB_sign l hs, List.all_cons, List.all_nil, sign_B (show e < 10 by omega), Bool.not_true, Bool.false_or, Bool.and_true, Bool.and_eq_true, Bool.not_eq_true', decide_eq_false_iff_not, decide_eq_true_eq, List.length_cons, List.length_nil, Nat.zero_add, decide_true]
      omega
    simp only [parse3, this, cond_true, figsOf, mapB_fig l hs, List.length_map, figs5, h0, if_false, if_true, List.map_cons, List.map_nil, fig_B (show e < 10 by omega)]
    rfl

theorem natNe (d : Nat) : ¬ ((d : Int) = -1) := by omega
theorem text_figs {l : List Nat} {n : Nat} (h : Whole l n) (e : Nat) (he : e < 8) : textB (figs5 l e) = true ∧ valOf (figs5 l e) = 8 * (n : Int) + e := by
  have hE : ∀ x : Int, x = (if e = 0 then -1 else (e : Int)) → (!decide (x = 0) && decide (x < 8)) = true ∧ ∀ y : Int, (if x = -1 then 8 * y else 8 * y + x) = 8 * y + e := by
    intro x hx
    by_cases h0 : e = 0
    · rw [if_pos h0] at hx
      subst hx
      exact ⟨by decide, fun y => by rw [if_pos rfl]; omega⟩
    · rw [if_neg h0] at hx
      subst hx
      refine ⟨?_, fun y => by rw [if_neg (natNe e)]⟩
      simp only [Bool.and_eq_true, Bool.not_eq_true', decide_eq_false_iff_not, decide_eq_true_eq]
      omega
  generalize hx : (if e = 0 then (-1 : Int) else (e : Int)) = x at hE
  obtain ⟨h1, h2⟩ := hE x rfl
  cases h with
  | one _ ha =>
    have hf : figs5 [n] e = [(n : Int), -1, -1, -1, x] := by unfold figs5; rw [hx]; rfl
    rw [hf]
    constructor
    · show isTextB (n : Int) (-1) x = true
      unfold isTextB
      rw [decide_eq_true (rfl : (-1 : Int) = -1), Bool.not_true, Bool.and_false, cond_false]
      exact h1
    · show (if x = -1 then 8 * num1 (num1 (num1 (num1 0 (n : Int)) (-1)) (-1)) (-1) else 8 * num1 (num1 (num1 (num1 0 (n : Int)) (-1)) (-1)) (-1) + x) = _
      rw [h2]
      simp only [num1, if_pos, if_neg (natNe n)]
      omega
  | two a b h ha hb =>
    have hf : figs5 [a, b] e = [(a : Int), (b : Int), -1, -1, x] := by unfold figs5; rw [hx]; rfl
    rw [hf]
    constructor
    · show isTextB (a : Int) (b : Int) x = true
      unfold isTextB
      rw [decide_eq_false (show ¬ ((a : Int) = 0) by omega), Bool.false_and, cond_false]
      exact h1
    · show (if x = -1 then 8 * num1 (num1 (num1 (num1 0 (a : Int)) (b : Int)) (-1)) (-1) else 8 * num1 (num1 (num1 (num1 0 (a : Int)) (b : Int)) (-1)) (-1) + x) = _
      rw [h2]
      simp only [num1, if_pos, if_neg (natNe a), if_neg (natNe b)]
      omega
  | three a b c h ha hb hc =>
    have hf : figs5 [a, b, c] e = [(a : Int), (b : Int), (c : Int), -1, x] := by unfold figs5; rw [hx]; rfl
    rw [hf]
    constructor
    · show isTextB (a : Int) (b : Int) x = true
      unfold isTextB
      rw [decide_eq_false (show ¬ ((a : Int) = 0) by omega), Bool.false_and, cond_false]
      exact h1
    · show (if x = -1 then 8 * num1 (num1 (num1 (num1 0 (a : Int)) (b : Int)) (c : Int)) (-1) else 8 * num1 (num1 (num1 (num1 0 (a : Int)) (b : Int)) (c : Int)) (-1) + x) = _
      rw [h2]
      simp only [num1, if_pos, if_neg (natNe a), if_neg (natNe b), if_neg (natNe c)]
      omega
  | four a b c d h ha hb hc hd =>
    have hf : figs5 [a, b, c, d] e = [(a : Int), (b : Int), (c : Int), (d : Int), x] := by unfold figs5; rw [hx]; rfl
    rw [hf]
    constructor
    · show isTextB (a : Int) (b : Int) x = true
      unfold isTextB
      rw [decide_eq_false (show ¬ ((a : Int) = 0) by omega), Bool.false_and, cond_false]
      exact h1
    · show (if x = -1 then 8 * num1 (num1 (num1 (num1 0 (a : Int)) (b : Int)) (c : Int)) (d : Int) else 8 * num1 (num1 (num1 (num1 0 (a : Int)) (b : Int)) (c : Int)) (d : Int) + x) = _
      rw [h2]
      simp only [num1, if_neg (natNe a), if_neg (natNe b), if_neg (natNe c), if_neg (natNe d)]
      omega

theorem val_textOf {l : List Nat} {n : Nat} (h : Whole l n) (e : Nat) (he : e < 8) : valL (textOf l e) = (8 * (n : Int) + e, 0) := by
  obtain ⟨h1, h2⟩ := text_figs h e he
  unfold valL ptL
  rw [parse_textOf h e he]
  simp only [h1, h2, Bool.and_self, cond_true]

theorem spell_textOf {l : List Nat} {n : Nat} (h : Whole l n) (e : Nat) (he : e < 8) : spellL (8 * (n : Int) + e) = textOf l e := by
  have hq : Int.tdiv (8 * (n : Int) + e) 8 = n := by rw [Int.tdiv_eq_ediv_of_nonneg (by omega)]; omega
  have hm : Int.tmod (8 * (n : Int) + e) 8 = e := by rw [Int.tmod_eq_emod_of_nonneg (by omega)]; omega
  have i1 : Lib.itoa (n : Int) = l.map B := by
    unfold Lib.itoa
    rw [if_neg (by omega), Int.toNat_natCast, h.dec]
  have i2 : Lib.itoa (e : Int) = [B e] := by
    unfold Lib.itoa
    rw [if_neg (by omega), Int.toNat_natCast, dec1 (by omega)]
  unfold spellL textOf
  rw [hq, hm, i1, i2]
  by_cases h0 : e = 0
  · rw [if_pos (by omega), if_pos h0, List.append_nil]
  · rw [if_neg (by omega), if_neg h0]; simp

/-- Each value is that of its text. -/
theorem value_spell (v : Int) (h0 : 0 ≤ v) (h1 : v ≤ 79999) : valL (spellL v) = (v, 0) := by
  obtain ⟨l, hl⟩ := whole_of (v.toNat / 8) (by omega)
  have e1 : v = 8 * ((v.toNat / 8 : Nat) : Int) + ((v.toNat % 8 : Nat) : Int) := by omega
  have he : v.toNat % 8 < 8 := by omega
  rw [e1, spell_textOf hl _ he, val_textOf hl _ he]

theorem all_B : ∀ (w : List UInt8), (∀ b ∈ w, sign b.toNat = true) → ∃ ds : List Nat, (∀ d, d ∈ ds → d < 10) ∧ w = ds.map B
  | [], _ => ⟨[], by simp, rfl⟩
  | b :: w, h => by
    obtain ⟨d, hd, rfl⟩ := of_sign (h b (by simp))
    obtain ⟨ds, h1, rfl⟩ := all_B w fun b hb => h b (by simp [hb])
    exact ⟨d :: ds, by simp [hd]; exact h1, rfl⟩

theorem whole_text (ds : List Nat) (hds : ∀ d, d ∈ ds → d < 10) (h1 : 1 ≤ ds.length) (h4 : ds.length ≤ 4) (x : Int) (ht : textB (ds.map (fun d : Nat => (d : Int)) ++ List.replicate (4 - ds.length) (-1) ++ [x]) = true) :
    (∃ n, Whole ds n) ∧ ¬ x = 0 ∧ x < 8 := by
  match ds, h1, h4 with
  | [a], _, _ =>
    have ha := hds a (by simp)
    have ht' : isTextB (a : Int) (-1) x = true := ht
    unfold isTextB at ht'
    rw [decide_eq_true (rfl : (-1 : Int) = -1), Bool.not_true, Bool.and_false, cond_false] at ht'
    simp only [Bool.and_eq_true, Bool.not_eq_true', decide_eq_false_iff_not, decide_eq_true_eq] at ht'
    exact ⟨⟨_, .one a ha⟩, ht'⟩
  | [a, b], _, _ =>
    have ha := hds a (by simp)
    have hb := hds b (by simp)
    have ht' : isTextB (a : Int) (b : Int) x = true := ht
    unfold isTextB at ht'
    by_cases h0 : (a : Int) = 0
    · rw [decide_eq_true h0, decide_eq_false (natNe b)] at ht'; cases ht'
    rw [decide_eq_false h0, Bool.false_and, cond_false] at ht'
    simp only [Bool.and_eq_true, Bool.not_eq_true', decide_eq_false_iff_not, decide_eq_true_eq] at ht'
    exact ⟨⟨_, .two a b (by omega) ha hb⟩, ht'⟩
  | [a, b, c], _, _ =>
    have ha := hds a (by simp)
    have hb := hds b (by simp)
    have hc := hds c (by simp)
    have ht' : isTextB (a : Int) (b : Int) x = true := ht
    unfold isTextB at ht'
    by_cases h0 : (a : Int) = 0
    · rw [decide_eq_true h0, decide_eq_false (natNe b)] at ht'; cases ht'
    rw [decide_eq_false h0, Bool.false_and, cond_false] at ht'
    simp only [Bool.and_eq_true, Bool.not_eq_true', decide_eq_false_iff_not, decide_eq_true_eq] at ht'
    exact ⟨⟨_, .three a b c (by omega) ha hb hc⟩, ht'⟩
  | [a, b, c, d], _, _ =>
    have ha := hds a (by simp)
    have hb := hds b (by simp)
    have hc := hds c (by simp)
    have hd := hds d (by simp)
    have ht' : isTextB (a : Int) (b : Int) x = true := ht
    unfold isTextB at ht'
    by_cases h0 : (a : Int) = 0
    · rw [decide_eq_true h0, decide_eq_false (natNe b)] at ht'; cases ht'
    rw [decide_eq_false h0, Bool.false_and, cond_false] at ht'
    simp only [Bool.and_eq_true, Bool.not_eq_true', decide_eq_false_iff_not, decide_eq_true_eq] at ht'
    exact ⟨⟨_, .four a b c d (by omega) ha hb hc hd⟩, ht'⟩

/-- A string that is a text is that of figures without a 0 ahead, and eighths. -/
theorem text_back (s : List UInt8) (h : (ptL s).2 = true) : ∃ l n e, Whole l n ∧ e < 8 ∧ s = textOf l e := by
  unfold ptL at h
  simp only [Bool.and_eq_true] at h
  obtain ⟨hp, ht⟩ := h
  obtain ⟨k1, k2⟩ := cut_back s
  unfold parseL parse3 at hp ht
  generalize hw : (Lib.cut s slashB).1 = w at *
  generalize hq : (Lib.cut s slashB).2.1 = p at *
  generalize hc : (Lib.cut s slashB).2.2 = c at *
  cases hok : okParts w p c with
  | false => rw [hok] at hp; cases hp
  | true =>
    rw [hok, cond_true] at ht
    simp only [okParts, Bool.and_eq_true, Bool.or_eq_true, Bool.not_eq_true', decide_eq_false_iff_not, decide_eq_true_eq, List.all_eq_true, List.mem_append] at hok
    obtain ⟨⟨⟨w1, w4⟩, hcp⟩, hall⟩ := hok
    obtain ⟨ds, hds, rfl⟩ := all_B w fun b hb => hall b (.inl hb)
    have hf : (ds.map B).map fig = ds.map fun d : Nat => (d : Int) := mapB_fig ds hds
    simp only [figsOf, hf, List.length_map] at ht w1 w4
    obtain ⟨⟨n, hn⟩, x0, x8⟩ := whole_text ds hds (by omega) w4 _ ht
    cases c with
    | false => exact ⟨ds, n, 0, hn, by omega, by rw [(k2 rfl).1]; unfold textOf; rw [if_pos rfl, List.append_nil]⟩
    | true =>
      have hp1 : p.length = 1 := by
        rcases hcp with e | e
        · cases e
        · exact e
      obtain ⟨b, rfl⟩ : ∃ b, p = [b] := by
        match p, hp1 with
        | [b], _ => exact ⟨b, rfl⟩
      obtain ⟨d, hd, rfl⟩ := of_sign (hall b (.inr (by simp)))
      have hx : (if true = true then ([B d].map fig)[0]?.getD 0 else -1) = (d : Int) := by
        rw [if_pos rfl]
        show fig (B d) = _
        exact fig_B hd
      rw [hx] at x0 x8
      exact ⟨ds, n, d, hn, by omega, by rw [k1 rfl]; unfold textOf; rw [if_neg (by omega)]⟩

/-- Each text is that of its value. -/
theorem spell_value (s : List UInt8) : (valL s = (0, 4)) ∨ ((valL s).2 = 0 ∧ 0 ≤ (valL s).1 ∧ (valL s).1 ≤ 79999 ∧ spellL (valL s).1 = s) := by
  cases h : (ptL s).2 with
  | false => exact .inl (by unfold valL; rw [h]; rfl)
  | true =>
    obtain ⟨l, n, e, hl, he, rfl⟩ := text_back s h
    have hn := hl.lt
    rw [val_textOf hl e he]
    exact .inr ⟨rfl, by simp only; omega, by simp only; omega, spell_textOf hl e he⟩
end Go.Proofs
