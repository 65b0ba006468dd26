import Derived.Test.YtkocecoddghmbaaGreatPp5
/- One more order, that comes after all others. Pure. -/
namespace Go.Proofs.Po
set_option linter.unusedSimpArgs false
theorem ord_last {t : List Int} : ordZ (t ++ [30]) = ordZ t ++ [t.length] := by
  unfold ordZ
  rw [cmZ_snoc (by omega) (by omega), insA_end]
  · rw [List.map_append]; rfl
  · intro a ha
    have := cmU_mem ha
    rw [ltA_f]
    show ¬ ((30 : Int) < a.1 ∨ ((30 : Int) = a.1 ∧ t.length < a.2))
    omega
theorem run_snoc {O : List Od} {a : Nat} : ∀ (l came : List Nat) (st : ST), runZ O (l ++ [a]) came st = comeZ O (came ++ l) a 20 (runZ O l came st)
  | [], came, st => by
    rw [List.nil_append, runZ, runZ, runZ, List.append_nil]
  | b :: l, came, st => by
    rw [List.cons_append, runZ, runZ, run_snoc l (came ++ [b]), List.append_assoc]
    rfl
theorem od_app {O : List Od} {m : Od} {j : Nat} (h : j < O.length) : od (O ++ [m]) j = od O j := by
  unfold od
  rw [List.getD_eq_getElem?_getD, List.getD_eq_getElem?_getD, List.getElem?_append_left h]
/-- What is left, but for one. -/
structure RelX (n : Nat) (lf lf' : List Int) : Prop where
  l : lf.length = 6
  l' : lf'.length = 6
  e : ∀ j, j ≠ n → lg lf' j = lg lf j
section
variable {O : List Od} {m : Od} {lf lf' : List Int}
theorem can_rel (k : RelX O.length lf lf') {a r : Nat} (ha : a < O.length) (hr : r < O.length) : canB (O ++ [m]) lf' a r = canB O lf a r := by
  unfold canB
  rw [k.e a (by omega), k.e r (by omega), od_app ha, od_app hr]
theorem pick_rel (k : RelX O.length lf lf') {a : Nat} (ha : a < O.length) : ∀ (l : List Nat) (acc : Option Nat), (∀ r, r ∈ l → r < O.length) → (∀ r, acc = some r → r < O.length) → pickZ (O ++ [m]) lf' a l acc = pickZ O lf a l acc
  | [], _, _, _ => rfl
  | q :: l, acc, hl, hacc => by
    have hq := hl q (by simp)
    have hs : stepP (O ++ [m]) lf' a q acc = stepP O lf a q acc := by
      unfold stepP
      rw [can_rel k ha hq]
      have : accB (O ++ [m]) q acc = accB O q acc := by
        cases acc with
        | none => rfl
        | some b =>
          show betB (O ++ [m]) q b = betB O q b
          unfold betB; rw [od_app hq, od_app (hacc b rfl)]
      rw [this]
    unfold pickZ
    rw [hs]
    refine pick_rel k ha l _ (fun r hr => hl r (by simp [hr])) fun r e => ?_
    unfold stepP at e
    cases hc : canB O lf a q && accB O q acc with
    | true => rw [hc, cond_true] at e; cases e; exact hq
    | false => rw [hc, cond_false] at e; exact hacc r e
theorem sub_rel (k : RelX O.length lf lf') {j : Nat} (hj : j < O.length) (h6 : O.length ≤ 6) (n : Int) : RelX O.length (subZ lf j n) (subZ lf' j n) := by
  refine ⟨by unfold subZ; rw [List.length_set, k.l], by unfold subZ; rw [List.length_set, k.l'], fun i hi => ?_⟩
  unfold subZ
  rw [lg_set (by rw [k.l']; omega), lg_set (by rw [k.l]; omega), k.e j (by omega), k.e i hi]
theorem bs_rel {a r : Nat} (hr : r < O.length) : bsZ (O ++ [m]) a r = bsZ O a r := by unfold bsZ; rw [od_app hr]
theorem drop_rel (k : RelX O.length lf lf') {a r : Nat} (ha : a < O.length) (hr : r < O.length) (h6 : O.length ≤ 6) : RelX O.length (dropZ O lf a r) (dropZ (O ++ [m]) lf' a r) := by
  unfold dropZ
  rw [bs_rel hr, k.e a (by omega), k.e r (by omega)]
  have h1 : (bsZ O a r).1 < O.length ∧ (bsZ O a r).2 < O.length := by
    rcases bs_cases O a r with e | e <;> rw [e] <;> exact ⟨by assumption, by assumption⟩
  exact sub_rel (sub_rel k h1.1 h6 _) h1.2 h6 _
theorem sale_rel (k : RelX O.length lf lf') {a r : Nat} (ha : a < O.length) (hr : r < O.length) : saleZ (O ++ [m]) lf' a r = saleZ O lf a r := by
  unfold saleZ
  rw [bs_rel hr, k.e a (by omega), k.e r (by omega), od_app hr]
theorem come_rel (h6 : O.length ≤ 6) {a : Nat} (ha : a < O.length) {came : List Nat} (hc : ∀ r, r ∈ came → r < O.length) : ∀ (f : Nat) (lf lf' : List Int) (sl : List Sa), RelX O.length lf lf' →
    RelX O.length (comeZ O came a f (lf, sl)).1 (comeZ (O ++ [m]) came a f (lf', sl)).1 ∧ (comeZ (O ++ [m]) came a f (lf', sl)).2 = (comeZ O came a f (lf, sl)).2
  | 0, lf, lf', sl, k => ⟨k, rfl⟩
  | f + 1, lf, lf', sl, k => by
    have hp := pick_rel (m := m) k ha came none hc (fun r e => by cases e)
    cases hq : pickZ O lf a came none with
    | none =>
      rw [hq] at hp
      rw [come_none (st := (lf, sl)) hq, come_none (st := (lf', sl)) hp]
      exact ⟨k, rfl⟩
    | some r =>
      rw [hq] at hp
      have hr := hc r (pick_in hq).1
      rw [come_some (st := (lf, sl)) hq, come_some (st := (lf', sl)) hp]
      have e := sale_rel (m := m) k ha hr
      show RelX _ (comeZ O came a f (dropZ O lf a r, sl ++ [saleZ O lf a r])).1 (comeZ (O ++ [m]) came a f (dropZ (O ++ [m]) lf' a r, sl ++ [saleZ (O ++ [m]) lf' a r])).1 ∧ (comeZ (O ++ [m]) came a f (dropZ (O ++ [m]) lf' a r, sl ++ [saleZ (O ++ [m]) lf' a r])).2 = (comeZ O came a f (dropZ O lf a r, sl ++ [saleZ O lf a r])).2
      rw [e]
      exact come_rel h6 ha hc f _ _ _ (drop_rel k ha hr h6)
theorem run_rel (h6 : O.length ≤ 6) : ∀ (l came : List Nat) (st st' : ST), (∀ a, a ∈ l → a < O.length) → (∀ r, r ∈ came → r < O.length) → RelX O.length st.1 st'.1 → st'.2 = st.2 →
    (runZ (O ++ [m]) l came st').2 = (runZ O l came st).2 ∧ RelX O.length (runZ O l came st).1 (runZ (O ++ [m]) l came st').1
  | [], _, _, _, _, _, k, e => ⟨e, k⟩
  | a :: l, came, (lf, sl), (lf', sl'), hl, hc, k, e => by
    have e : sl' = sl := e
    subst e
    rw [runZ, runZ]
    have ha := hl a (by simp)
    obtain ⟨q1, q2⟩ := come_rel (m := m) h6 ha hc 20 lf lf' sl' k
    refine run_rel h6 l _ _ _ (fun x hx => hl x (by simp [hx])) (fun r hr => ?_) q1 q2
    rcases List.mem_append.1 hr with hr | hr
    · exact hc r hr
    · simp at hr; omega
end
/-- The sales of one that comes are its own. -/
theorem come_own {O : List Od} {came : List Nat} {a : Nat} : ∀ (f : Nat) (st : ST), ∃ E, (comeZ O came a f st).2 = st.2 ++ E ∧ ∀ s, s ∈ E → s.bu = (a : Int) ∨ s.se = (a : Int)
  | 0, st => ⟨[], (List.append_nil _).symm, fun s hs => by cases hs⟩
  | f + 1, st => by
    cases hq : pickZ O st.1 a came none with
    | none => rw [come_none hq]; exact ⟨[], (List.append_nil _).symm, fun s hs => by cases hs⟩
    | some r =>
      rw [come_some hq]
      obtain ⟨E, e1, e2⟩ := come_own f (dropZ O st.1 a r, st.2 ++ [saleZ O st.1 a r])
      refine ⟨saleZ O st.1 a r :: E, ?_, fun s hs => ?_⟩
      · rw [e1]
        show st.2 ++ [saleZ O st.1 a r] ++ E = _
        rw [List.append_assoc]; rfl
      · rcases List.mem_cons.1 hs with rfl | hs
        · unfold saleZ
          rcases bs_cases O a r with e | e <;> rw [e]
          · exact .inr rfl
          · exact .inl rfl
        · exact e2 s hs
/-- The sales with one order more, that comes last: those without it, then its own. -/
theorem play_last {O : List Od} {m : Od} {t : List Int} (hv : Val O) (ht : Tru O t) : ∃ E, (playZ (O ++ [m]) (t ++ [30])).2 = (playZ O t).2 ++ E ∧ (∀ s, s ∈ E → s.bu = (O.length : Int) ∨ s.se = (O.length : Int)) ∧ ∀ s, s ∈ (playZ O t).2 → ¬ (s.bu = (O.length : Int) ∨ s.se = (O.length : Int)) := by
  have hl := ht.len
  have hlt : ∀ a, a ∈ ordZ t → a < O.length := fun a ha => by have := ord_lt ha; omega
  have hx6 : (O ++ [m]).length = O.length + 1 := by simp
  have k0 : RelX O.length (left0 O O.length) (left0 (O ++ [m]) (O ++ [m]).length) := by
    refine ⟨left0_len _ _, left0_len _ _, fun j hj => ?_⟩
    by_cases h6 : j < 6
    · rw [left0_get _ _ _ h6, left0_get _ _ _ h6, hx6]
      by_cases h : j < O.length
      · rw [if_pos h, if_pos (by omega), od_app h]
      · rw [if_neg h, if_neg (by omega)]
    · rw [left0_out _ _ _ h6, left0_out _ _ _ h6]
  obtain ⟨q1, _⟩ := run_rel (m := m) hv.l6 (ordZ t) [] (left0 O O.length, []) (left0 (O ++ [m]) (O ++ [m]).length, []) hlt (fun r hr => by cases hr) k0 rfl
  have hp : (playZ (O ++ [m]) (t ++ [30])) = comeZ (O ++ [m]) ([] ++ ordZ t) t.length 20 (runZ (O ++ [m]) (ordZ t) [] (left0 (O ++ [m]) (O ++ [m]).length, [])) := by
    unfold playZ
    rw [ord_last, run_snoc]
  have hp0 : (runZ O (ordZ t) [] (left0 O O.length, [])).2 = (playZ O t).2 := by unfold playZ; rfl
  rw [hp0] at q1
  obtain ⟨E, e1, e2⟩ := come_own (O := O ++ [m]) (came := [] ++ ordZ t) (a := t.length) 20 (runZ (O ++ [m]) (ordZ t) [] (left0 (O ++ [m]) (O ++ [m]).length, []))
  refine ⟨E, ?_, fun s hs => by have := e2 s hs; rw [hl] at this; exact this, fun s hs => ?_⟩
  · rw [hp, e1, q1]
  · obtain ⟨b, e, h1, h2, h3, h4, _⟩ := (sq_play hv ht).sl s hs
    omega
end Go.Proofs.Po
