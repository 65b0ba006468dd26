import Derived.Test.YtemmpnipmklacaaRpO
import Derived.Test.YtemmpnipmklacaaRpL
namespace Go.Proofs.Rg
open Go Go.Ev
set_option linter.unusedSimpArgs false
/-! ## Both sides say the same of rings -/
def nuAt (cs : List C4) (i : Nat) : Int := (cAt cs (i : Int)).2.2.1
def PP (cs : List C4) (off : List Int) : Prop := ∀ i : Nat, i < cs.length → off.getD i 0 ≤ nuAt cs i
def NN (off : List Int) : Prop := ∀ i : Nat, 0 ≤ off.getD i 0
theorem getD_addAt2 {off : List Int} {i j : Nat} {d : Int} : (addAt off i d).getD j 0 = off.getD j 0 + (if i = j ∧ i < off.length then d else 0) := by
  unfold addAt
  by_cases e : i = j
  · subst e
    by_cases hl : i < off.length
    · rw [List.getD_eq_getElem?_getD, List.getElem?_set_self hl, if_pos ⟨rfl, hl⟩]; rfl
    · rw [List.getD_eq_getElem?_getD, List.getElem?_eq_none (by rw [List.length_set]; omega), if_neg (fun q => hl q.2), List.getD_eq_getElem?_getD, List.getElem?_eq_none (by omega)]; rfl
  · rw [List.getD_eq_getElem?_getD, List.getElem?_set_ne e, ← List.getD_eq_getElem?_getD, if_neg (fun q => e q.1), Int.add_zero]
theorem le_addAt {off : List Int} {i j : Nat} {d : Int} (h : 0 ≤ d) : off.getD j 0 ≤ (addAt off i d).getD j 0 := by
  rw [getD_addAt2]; split <;> omega
theorem le_ad {am : Int} (h : 0 ≤ am) (j : Nat) : ∀ (l off : List Int), off.getD j 0 ≤ (ad am off l).getD j 0
  | [], _ => Int.le_refl _
  | i :: l, off => by rw [ad]; exact Int.le_trans (le_addAt h) (le_ad h j l _)
theorem le_ads (j : Nat) : ∀ (rl : List R2) (off : List Int), (∀ r, r ∈ rl → 1 ≤ r.2) → off.getD j 0 ≤ (ads off rl).getD j 0
  | [], _, _ => Int.le_refl _
  | r :: rl, off, h => by
    rw [ads]
    exact Int.le_trans (le_ad (by have := h r (by simp); omega) j _ _) (le_ads j rl _ fun r' h' => h r' (by simp [h']))
theorem ad_len {am : Int} : ∀ (l off : List Int), (ad am off l).length = off.length
  | [], _ => rfl
  | i :: l, off => by rw [ad, ad_len l, addAt_len]
theorem mus_ad {n : Nat} {cs : List C4} (hv : Hs n cs) {am : Int} (ha : 1 ≤ am) : ∀ (l off : List Int), off.length = cs.length → PP cs off → NN off → l.all (inC cs) = true →
    (mus cs am off l = some (ad am off l) ∧ PP cs (ad am off l) ∧ NN (ad am off l) ∧ (l ≠ [] → am ≤ 100)) ∨ (mus cs am off l = none ∧ ¬ PP cs (ad am off l))
  | [], off, _, hp, hn, _ => .inl ⟨rfl, hp, hn, fun q => absurd rfl q⟩
  | x :: l, off, hl, hp, hn, hc => by
    rw [List.all_cons, Bool.and_eq_true] at hc
    obtain ⟨i, rfl, hci⟩ := cAt_get hc.1
    have hi : i < cs.length := (List.getElem?_eq_some_iff.1 hci).1
    obtain ⟨_, _, hn100, _⟩ := hv _ (List.mem_of_getElem? hci)
    have hni := hn i
    rw [mus, ad, Int.toNat_natCast]
    by_cases hgt : (cAt cs (i : Int)).2.2.1 - off.getD i 0 < am
    · rw [decide_eq_true hgt, cond_true]
      refine .inr ⟨rfl, fun q => ?_⟩
      have h1 := q i hi
      have h2 := le_ad (am := am) (by omega) i l (addAt off i am)
      rw [getD_addAt2, if_pos ⟨rfl, by omega⟩] at h2
      have : nuAt cs i = (cAt cs (i : Int)).2.2.1 := rfl
      omega
    · rw [decide_eq_false hgt, cond_false]
      have h1 : PP cs (addAt off i am) := fun j hj => by
        rw [getD_addAt2]
        by_cases e : i = j
        · subst e
          rw [if_pos ⟨rfl, by omega⟩]
          have : nuAt cs i = (cAt cs (i : Int)).2.2.1 := rfl
          omega
        · rw [if_neg fun q => e q.1]; have := hp j hj; omega
      have h2 : NN (addAt off i am) := fun j => Int.le_trans (hn j) (le_addAt (by omega))
      rcases mus_ad hv ha l (addAt off i am) (by rw [addAt_len]; exact hl) h1 h2 hc.2 with ⟨a, b, c, _⟩ | k
      · exact .inl ⟨a, b, c, fun _ => by omega⟩
      · exact .inr k
theorem mu_ads {n : Nat} {cs : List C4} (hv : Hs n cs) : ∀ (rl : List R2) (off : List Int), off.length = cs.length → PP cs off → NN off → (∀ r, r ∈ rl → 1 ≤ r.2 ∧ r.1.all (inC cs) = true ∧ r.1 ≠ []) →
    (mu cs off rl = some (ads off rl) ∧ PP cs (ads off rl) ∧ ∀ r, r ∈ rl → r.2 ≤ 100) ∨ (mu cs off rl = none ∧ ¬ PP cs (ads off rl))
  | [], off, _, hp, _, _ => .inl ⟨rfl, hp, fun r h => by simp at h⟩
  | r :: rl, off, hl, hp, hn, hr => by
    obtain ⟨r1, r2, r3⟩ := hr r (by simp)
    rw [mu, ads]
    rcases mus_ad hv r1 r.1 off hl hp hn r2 with ⟨a, b, c, d⟩ | ⟨a, b⟩
    · rw [a, Option.bind_some]
      rcases mu_ads hv rl (ad r.2 off r.1) (by rw [ad_len]; exact hl) b c (fun r' h => hr r' (by simp [h])) with ⟨e, f, g⟩ | k
      · refine .inl ⟨e, f, fun r' h => ?_⟩
        rcases List.mem_cons.1 h with rfl | h
        · exact d r3
        · exact g r' h
      · exact .inr k
    · rw [a, Option.bind_none]
      refine .inr ⟨rfl, fun q => b fun j hj => Int.le_trans (le_ads j rl _ fun r' h => (hr r' (by simp [h])).1) (q j hj)⟩
theorem few_of_nodup : ∀ (n : Nat) (l : List Nat), l.Nodup → (∀ x, x ∈ l → x < n) → l.length ≤ n
  | 0, l, _, h => by
    cases l with
    | nil => exact Nat.le_refl _
    | cons a l => exact absurd (h a (by simp)) (by omega)
  | n + 1, l, hd, h => by
    have h1 := few_of_nodup n (l.erase n) (hd.erase n) fun x hx => by
      have := (hd.mem_erase_iff).1 hx
      have := h x this.2
      omega
    rw [List.length_erase] at h1
    split at h1 <;> omega
theorem ring_few {n : Nat} {cs : List C4} (hv : Hs n cs) {l : List Int} (hc : l.all (inC cs) = true) (hr : ringB cs l = true) : l.length ≤ n := by
  have hg : ∀ x, x ∈ l → ∃ f : Nat, (cAt cs x).1 = (f : Int) ∧ f < n := fun x hx => by
    obtain ⟨i, _, hci⟩ := cAt_get (List.all_eq_true.1 hc x hx)
    obtain ⟨⟨f, _, e, _, hf, _⟩, _⟩ := hv _ (List.mem_of_getElem? hci)
    exact ⟨f, e, hf⟩
  have h1 := few_of_nodup n (l.map fun x => (cAt cs x).1.toNat) ?_ ?_
  · rwa [List.length_map] at h1
  · rw [List.Nodup, List.pairwise_iff_getElem]
    intro i j hi hj hij
    rw [List.length_map] at hi hj
    rw [List.getElem_map, List.getElem_map]
    intro e
    have hs := List.all_eq_true.1 hr j (List.mem_range.2 hj)
    obtain ⟨f, e1, _⟩ := hg _ (List.getElem_mem hi)
    obtain ⟨f', e2, _⟩ := hg _ (List.getElem_mem hj)
    rw [e1, e2] at e
    have hsj : l.getD j 0 = l[j] := by rw [List.getD_eq_getElem?_getD, List.getElem?_eq_getElem hj]; rfl
    simp only [stepOK, hsj, Bool.and_eq_true, Bool.not_eq_true', List.any_eq_false, decide_eq_true_eq] at hs
    refine hs.2 l[i] ?_ (by rw [e1, e2]; omega)
    rw [List.mem_take_iff_getElem]
    exact ⟨i, by omega, rfl⟩
  · intro x hx
    obtain ⟨y, hy, rfl⟩ := List.mem_map.1 hx
    obtain ⟨f, e, hf⟩ := hg y hy
    rw [e]; omega
theorem isRingP_ne {cs : List C4} {r : R2} (k : isRingP cs r = true) : r.1 ≠ [] := by
  simp only [isRingP, Bool.and_eq_true, Bool.not_eq_true', Bool.or_eq_false_iff, decide_eq_false_iff_not] at k
  intro e
  rw [e] at k
  simp at k
theorem irP_eq {n : Nat} {cs : List C4} (hv : Hs n cs) (r : R2) (h : r.2 ≤ 100) : irP n cs r = isRingP cs r := by
  unfold irP isRingP
  rw [decide_eq_false (by omega : ¬ 100 < r.2), Bool.or_false]
  cases hc : r.1.all (inC cs) && ringB cs r.1 with
  | false => rw [Bool.and_false, Bool.and_false]
  | true =>
    rw [Bool.and_eq_true] at hc
    have := ring_few hv hc.1 hc.2
    rw [decide_eq_false (by omega : ¬ (n : Int) < (r.1.length : Int)), Bool.or_false]
theorem irP_isRingP {n : Nat} {cs : List C4} {r : R2} (k : irP n cs r = true) : isRingP cs r = true ∧ r.2 ≤ 100 := by
  simp only [irP, isRingP, Bool.and_eq_true, Bool.not_eq_true', Bool.or_eq_false_iff, decide_eq_false_iff_not] at k ⊢
  exact ⟨⟨⟨k.1.1.1.1, k.1.1.2⟩, k.2⟩, by omega⟩
theorem nuAt_succ (c : C4) (cs : List C4) (i : Nat) : nuAt (c :: cs) (i + 1) = nuAt cs i := by
  simp only [nuAt, cAt, Int.toNat_natCast, List.getD_eq_getElem?_getD, List.getElem?_cons_succ]
theorem partB_iff : ∀ (cs : List C4) (off : List Int), off.length = cs.length → NN off → (partB cs off = true ↔ PP cs off)
  | [], [], _, _ => ⟨fun _ i hi => absurd hi (by simp), fun _ => rfl⟩
  | [], _ :: _, h, _ => by simp at h
  | _ :: _, [], h, _ => by simp at h
  | c :: cs, a :: off, h, hn => by
    have h0 := hn 0
    have hn' : NN off := fun i => by have := hn (i + 1); rwa [List.getD_eq_getElem?_getD, List.getElem?_cons_succ, ← List.getD_eq_getElem?_getD] at this
    rw [partB, Bool.and_eq_true, partB_iff cs off (by simpa using h) hn']
    have ha : (0 : Int) ≤ a := h0
    constructor
    · rintro ⟨k1, k2⟩ i hi
      simp only [inB, Bool.and_eq_true, decide_eq_true_eq] at k1
      cases i with
      | zero => exact k1.2
      | succ i =>
        rw [nuAt_succ, List.getD_eq_getElem?_getD, List.getElem?_cons_succ, ← List.getD_eq_getElem?_getD]
        exact k2 i (by simpa using hi)
    · intro k
      refine ⟨?_, fun i hi => ?_⟩
      · have := k 0 (by simp)
        simp only [inB, Bool.and_eq_true, decide_eq_true_eq]
        exact ⟨ha, this⟩
      · have := k (i + 1) (by simpa using hi)
        rwa [nuAt_succ, List.getD_eq_getElem?_getD, List.getElem?_cons_succ, ← List.getD_eq_getElem?_getD] at this
theorem ads_len : ∀ (rl : List R2) (off : List Int), (ads off rl).length = off.length
  | [], _ => rfl
  | r :: rl, off => by rw [ads, ads_len rl, ad_len]
theorem rings_eq {n : Nat} {cs : List C4} (hv : Hs n cs) (rl : List R2) (total : Int) :
    (rl.all (isRingP cs) && match mu cs (List.replicate cs.length 0) rl with | none => false | some off => decide (total ≤ off.sum)) = (rl.all (irP n cs) && (partB cs (ads (List.replicate cs.length 0) rl) && decide (total ≤ (ads (List.replicate cs.length 0) rl).sum))) := by
  cases ha : rl.all (isRingP cs) with
  | false =>
    rw [Bool.false_and]
    cases hb : rl.all (irP n cs) with
    | false => rw [Bool.false_and]
    | true =>
      have : rl.all (isRingP cs) = true := List.all_eq_true.2 fun r hr => (irP_isRingP (List.all_eq_true.1 hb r hr)).1
      rw [ha] at this; cases this
  | true =>
    rw [Bool.true_and]
    have hz : ∀ i : Nat, (List.replicate cs.length (0 : Int)).getD i 0 = 0 := fun i => by
      rw [List.getD_eq_getElem?_getD, List.getElem?_replicate]; split <;> rfl
    have hr1 : ∀ r, r ∈ rl → 1 ≤ r.2 ∧ r.1.all (inC cs) = true ∧ r.1 ≠ [] := fun r hr => by
      have := List.all_eq_true.1 ha r hr
      exact ⟨(isRingP_of this).1, (isRingP_of this).2, isRingP_ne this⟩
    have hpz : PP cs (List.replicate cs.length 0) := fun i hi => by
      obtain ⟨_, h1, _⟩ := hv _ (List.getElem_mem hi)
      have : nuAt cs i = cs[i].2.2.1 := by simp [nuAt, cAt, List.getD_eq_getElem?_getD, List.getElem?_eq_getElem hi]
      rw [hz]; omega
    have hnz : NN (List.replicate cs.length 0) := fun i => by rw [hz]; exact Int.le_refl _
    have hna : NN (ads (List.replicate cs.length 0) rl) := fun i => Int.le_trans (hnz i) (le_ads i rl _ fun r hr => (hr1 r hr).1)
    have hpi := partB_iff cs (ads (List.replicate cs.length 0) rl) (by rw [ads_len, List.length_replicate]) hna
    rcases mu_ads hv rl (List.replicate cs.length 0) List.length_replicate hpz hnz hr1 with ⟨a, b, c⟩ | ⟨a, b⟩
    · have hall : rl.all (irP n cs) = true := List.all_eq_true.2 fun r hr => by rw [irP_eq hv r (c r hr)]; exact List.all_eq_true.1 ha r hr
      rw [a, hall, hpi.2 b, Bool.true_and, Bool.true_and]
    · have : partB cs (ads (List.replicate cs.length 0) rl) = false := by
        cases e : partB cs (ads (List.replicate cs.length 0) rl) with
        | false => rfl
        | true => exact absurd (hpi.1 e) b
      rw [a, this, Bool.false_and, Bool.and_false]
end Go.Proofs.Rg
