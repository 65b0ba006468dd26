import Derived.Test.YtkocecoddghmbaaGreatPp2
/- What the reference does with the same orders (nothing of the program in it). -/
namespace Go.Proofs.Po
open Go Go.Ev
theorem atM_get {m : Int} {y : AR} : ∀ {l : List Int} {k : Nat}, y ∈ atM m l k → ∃ i, y.2 = k + i ∧ l[i]? = some m ∧ y.1 = m
  | [], k, h => by simp [atM] at h
  | a :: r, k, h => by
    unfold atM at h
    have ih : y ∈ atM m r (k + 1) → ∃ i, y.2 = k + i ∧ (a :: r)[i]? = some m ∧ y.1 = m := fun h => by
      obtain ⟨i, h1, h2, h3⟩ := atM_get h
      exact ⟨i + 1, by omega, by simpa using h2, h3⟩
    cases hd : decide (a = m) with
    | true =>
      rw [hd, cond_true] at h
      rcases List.mem_cons.1 h with rfl | h
      · exact ⟨0, rfl, by simp [of_decide_eq_true hd], rfl⟩
      · exact ih h
    | false => rw [hd, cond_false] at h; exact ih h
theorem atM_pw (m : Int) : ∀ (l : List Int) (k : Nat), (atM m l k).Pairwise fun x y => x.2 ≠ y.2
  | [], _ => List.Pairwise.nil
  | a :: r, k => by
    have ih := atM_pw m r (k + 1)
    unfold atM
    cases decide (a = m) with
    | true =>
      rw [cond_true, List.pairwise_cons]
      refine ⟨fun y hy => ?_, ih⟩
      obtain ⟨i, h1, _⟩ := atM_get hy
      show k ≠ y.2; omega
    | false => exact ih
theorem cmU_get {t : List Int} {y : AR} : ∀ {j : Nat}, y ∈ cmU t j → t[y.2]? = some y.1
  | 0, h => by simp [cmU] at h
  | j + 1, h => by
    unfold cmU at h
    rcases List.mem_append.1 h with h | h
    · exact cmU_get h
    · obtain ⟨i, h1, h2, h3⟩ := atM_get h
      rw [h1, Nat.zero_add, h3]; exact h2
theorem cmU_pw (t : List Int) : ∀ j, (cmU t j).Pairwise fun x y => x.2 ≠ y.2
  | 0 => List.Pairwise.nil
  | j + 1 => by
    unfold cmU
    rw [List.pairwise_append]
    refine ⟨cmU_pw t j, atM_pw _ _ _, fun x hx y hy e => ?_⟩
    have h1 := cmU_get hx
    have h2 := (cmU_mem hx).1
    obtain ⟨i, h3, h4, h5⟩ := atM_get hy
    rw [Nat.zero_add] at h3
    rw [e, h3, h4] at h1
    injection h1 with h1
    omega
theorem ord_nodup (t : List Int) : (ordZ t).Pairwise fun x y => x ≠ y := by
  unfold ordZ cmZ
  rw [List.pairwise_map]
  exact cmU_pw t 31
/-! ## The same steps -/
def skipB (o x : Od) (l : Int) : Bool := ((x.b == o.b) || decide (l = 0)) || ((o.b && decide (o.l < x.l)) || (!o.b && decide (x.l < o.l)))
theorem skip_eq {O : List Od} {lf : List Int} {a j : Nat} (ha : 0 < lg lf a) (hj : 0 ≤ lg lf j) : skipB (od O a) (od O j) (lg lf j) = !canB O lf a j := by
  unfold skipB canB oppB isAtB
  rw [decide_eq_true ha]
  generalize (od O a).b = p
  generalize (od O j).b = q
  generalize (od O a).l = x
  generalize (od O j).l = y
  generalize lg lf j = l at hj
  rw [Bool.eq_iff_iff]
  cases p <;> cases q <;> simp <;> omega
theorem pick_zero {O : List Od} {lf : List Int} {a : Nat} (h : lg lf a ≤ 0) : ∀ (l : List Nat) (acc : Option Nat), pickZ O lf a l acc = acc
  | [], acc => rfl
  | r :: l, acc => by
    have : canB O lf a r = false := by unfold canB; rw [decide_eq_false (by omega)]; rfl
    unfold pickZ stepP
    rw [this, Bool.false_and, cond_false]
    exact pick_zero h l acc
def bestB (o x y : Od) : Bool := (o.b && decide (x.l < y.l)) || (!o.b && decide (y.l < x.l))
theorem best_eq2 {O : List Od} {lf : List Int} {a b r : Nat} (h : canB O lf a b = true) : bestB (od O a) (od O r) (od O b) = betB O r b := by
  have := (can_pos h).2.2.1
  unfold bestB betB isAtB
  rw [this]
  rw [Bool.eq_iff_iff]
  cases (od O b).b <;> simp
/-- Both numbers smaller by i. -/
def dec2 (rl : List Int) (a r : Nat) (i : Int) : List Int := (rl.set a (lg rl a - i)).set r (lg rl r - i)
theorem dec2_len {rl : List Int} {a r : Nat} {i : Int} : (dec2 rl a r i).length = rl.length := by unfold dec2; rw [List.length_set, List.length_set]
theorem dec2_get {rl : List Int} (h6 : rl.length = 6) {a r : Nat} (ha : a < 6) (hr : r < 6) (_hne : a ≠ r) (i : Int) (j : Nat) : lg (dec2 rl a r i) j = if j = a ∨ j = r then lg rl j - i else lg rl j := by
  unfold dec2
  rw [lg_set (by rw [List.length_set, h6]; exact hr), lg_set (by rw [h6]; exact ha)]
  by_cases e1 : r = j
  · subst e1; rw [if_pos rfl, if_pos (.inr rfl)]
  · rw [if_neg e1]
    by_cases e2 : a = j
    · subst e2; rw [if_pos rfl, if_pos (.inl rfl)]
    · rw [if_neg e2, if_neg (by omega)]
theorem dec2_0 {rl : List Int} (h6 : rl.length = 6) {a r : Nat} (ha : a < 6) (hr : r < 6) : dec2 rl a r 0 = rl := by
  apply List.ext_getElem?
  intro j
  unfold dec2
  rw [List.getElem?_set, List.getElem?_set, List.length_set, h6]
  by_cases e1 : r = j
  · subst e1; rw [if_pos rfl, if_pos hr, lg_get (by omega)]; simp
  · rw [if_neg e1]
    by_cases e2 : a = j
    · subst e2; rw [if_pos rfl, if_pos ha, lg_get (by omega)]; simp
    · rw [if_neg e2]
theorem ext_lg {x y : List Int} (hx : x.length = 6) (hy : y.length = 6) (h : ∀ j, j < 6 → lg x j = lg y j) : x = y := by
  apply List.ext_getElem?
  intro j
  by_cases hj : j < 6
  · rw [lg_get (by omega), lg_get (by omega), h j hj]
  · rw [List.getElem?_eq_none (by omega), List.getElem?_eq_none (by omega)]
theorem dec2_step {rl : List Int} (h6 : rl.length = 6) {a r : Nat} (ha : a < 6) (hr : r < 6) (hne : a ≠ r) (i : Int) :
    ((dec2 rl a r i).set a (lg rl a - i - 1)).set r (lg rl r - i - 1) = dec2 rl a r (i + 1) := by
  refine ext_lg (by rw [List.length_set, List.length_set, dec2_len, h6]) (by rw [dec2_len, h6]) fun j _ => ?_
  rw [lg_set (by rw [List.length_set, dec2_len, h6]; exact hr), lg_set (by rw [dec2_len, h6]; exact ha), dec2_get h6 ha hr hne, dec2_get h6 ha hr hne]
  by_cases e1 : r = j
  · subst e1; rw [if_pos rfl, if_pos (.inr rfl)]; omega
  · rw [if_neg e1]
    by_cases e2 : a = j
    · subst e2; rw [if_pos rfl, if_pos (.inl rfl)]; omega
    · rw [if_neg e2, if_neg (by omega), if_neg (by omega)]
def Agr (rl lf : List Int) (S : List Nat) : Prop := ∀ j, j ∈ S → lg rl j = lg lf j
theorem agr_drop {O : List Od} {rl lf : List Int} {S : List Nat} {a r : Nat} (h6 : rl.length = 6) (hl : lf.length = 6) (ha : a < 6) (hr : r < 6) (hne : a ≠ r) (k : Agr rl lf S) (aS : a ∈ S) (rS : r ∈ S) :
    Agr (dec2 rl a r (min2 (lg rl a) (lg rl r))) (dropZ O lf a r) S := by
  intro j hj
  rw [dec2_get h6 ha hr hne, drop_get hl ha hr hne, k a aS, k r rS, k j hj]
/-- What has come is of use, what has not is whole. -/
structure ComeOk (O : List Od) (came : List Nat) (a : Nat) (st st' : ST) : Prop where
  ok : LfOk st'.1
  keep : ∀ j, j ∉ came → j ≠ a → lg st'.1 j = lg st.1 j
theorem come_ok {O : List Od} {came : List Nat} {a : Nat} (ha : a < 6) (hc : ∀ r, r ∈ came → r < 6) : ∀ (f : Nat) (st : ST), LfOk st.1 → ComeOk O came a st (comeZ O came a f st)
  | 0, st, h => ⟨h, fun _ _ _ => rfl⟩
  | f + 1, st, h => by
    cases hp : pickZ O st.1 a came none with
    | none =>
      have : comeZ O came a (f + 1) st = st := come_none hp _
      rw [this]; exact ⟨h, fun _ _ _ => rfl⟩
    | some r =>
      rw [come_some hp]
      have hr : r ∈ came ∧ canB O st.1 a r = true := by
        rcases pick_some hp with e | e
        · cases e
        · exact e
      have hok := (drop_ok (O := O) h ha (hc r hr.1) hr.2).1
      obtain ⟨k1, k2⟩ := come_ok ha hc f (dropZ O st.1 a r, st.2 ++ [saleZ O st.1 a r]) hok
      refine ⟨k1, fun j hj hja => ?_⟩
      rw [k2 j hj hja]
      show lg (dropZ O st.1 a r) j = _
      rw [drop_get h.len ha (hc r hr.1) (can_ne hr.2), if_neg (fun e => by rcases e with e | e; exact hja e; exact hj (e ▸ hr.1))]
end Go.Proofs.Po
