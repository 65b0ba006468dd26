import Derived.Test.YtfbkgnojdngiiaaMh4
import Derived.Test.YtfbkgnojdngiiaaEvE
/- What is owed and called, by the words of the document. -/
namespace Go.Proofs.Mg
open Go Go.Ev Go.RowKit
set_option linter.unusedSimpArgs false
variable {pr : Prim} {R : ExT}
/-! ## A truth of a bank -/
structure Tru (st : Int) (n : Nat) (T : List PT) (rt : List Int) : Prop where
  lt : T.length = n
  lr : rt.length = n
  pl : ∀ p, p ∈ T → (p.2.length : Int) = st
  pb : ∀ p, p ∈ T → ∀ x, x ∈ p.2 → 0 ≤ x ∧ x ≤ 1000
  rb : ∀ r, r ∈ rt → 0 ≤ r ∧ r ≤ 100
theorem tru_of {st : Int} {D : List PD} {L : List PL} {T : List PT} {rt : List Int} (hv : Val st D L) (h : truthB st D T rt = true) : Tru st D.length T rt := by
  simp only [truthB, Bool.and_eq_true, decide_eq_true_eq, List.all_eq_true] at h
  obtain ⟨h1, h2, h3⟩ := h
  have hz : ∀ (i : Nat) (hD : i < D.length) (hT : i < T.length) (hR : i < rt.length), okT st (D[i], T[i], rt[i]) = true := fun i hD hT hR => by
    refine h3 _ ?_
    have hi : i < (List.zip D (List.zip T rt)).length := by rw [List.length_zip, List.length_zip]; omega
    have := List.getElem_mem hi
    rwa [List.getElem_zip, List.getElem_zip] at this
  refine ⟨by omega, by omega, fun p hp => ?_, fun p hp x hx => ?_, fun r hr => ?_⟩
  · obtain ⟨i, hi, rfl⟩ := List.mem_iff_getElem.1 hp
    have := hz i (by omega) hi (by omega)
    simp only [okT, okT1, Bool.and_eq_true, decide_eq_true_eq] at this
    exact this.1.1
  · obtain ⟨i, hi, rfl⟩ := List.mem_iff_getElem.1 hp
    have hq := hz i (by omega) hi (by omega)
    have hD : i < D.length := by omega
    have ho := okD_iff.1 (hv.dy D[i] (List.getElem_mem hD))
    simp only [okT, okT1, pricesB, Bool.and_eq_true, decide_eq_true_eq, List.all_eq_true] at hq
    obtain ⟨⟨q1, _⟩, q2⟩ := hq
    obtain ⟨j, hj, rfl⟩ := List.mem_iff_getElem.1 hx
    have hl := ho.len
    have hjD : j < D[i].2.1.length := by omega
    have hjz : j < (List.zip D[i].2.1 T[i].2).length := by rw [List.length_zip]; omega
    have hm := List.getElem_mem hjz
    rw [List.getElem_zip] at hm
    have hb := inB_iff.1 (q2 _ hm)
    have hr := ho.pr D[i].2.1[j] (List.getElem_mem hjD)
    have e1 : (D[i].2.1[j], T[i].2[j]).1.1 = D[i].2.1[j].1 := rfl
    have e2 : (D[i].2.1[j], T[i].2[j]).1.2 = D[i].2.1[j].2 := rfl
    have e3 : (D[i].2.1[j], T[i].2[j]).2 = T[i].2[j] := rfl
    rw [e1, e2, e3] at hb
    omega
  · obtain ⟨i, hi, rfl⟩ := List.mem_iff_getElem.1 hr
    have hq := hz i (by omega) (by omega) hi
    have hD : i < D.length := by omega
    have ho := okD_iff.1 (hv.dy D[i] (List.getElem_mem hD))
    simp only [okT, okT1, Bool.and_eq_true, decide_eq_true_eq] at hq
    have hb := inB_iff.1 hq.1.2
    have r0 := ho.r0
    have r2 := ho.r2
    omega
/-! ## Values -/
def valS (s p : List Int) : Int := sumL (List.zipWith (· * ·) s p)
theorem prod_bnd {s p : List Int} (hs : ∀ n, n ∈ s → 0 ≤ n ∧ n ≤ 100) (hp : ∀ n, n ∈ p → 0 ≤ n ∧ n ≤ 1000) : ∀ x, x ∈ List.zipWith (· * ·) s p → 0 ≤ x ∧ x ≤ 100000 := fun x hx => by
  obtain ⟨i, hi, rfl⟩ := List.mem_iff_getElem.1 hx
  rw [List.length_zipWith] at hi
  rw [List.getElem_zipWith]
  have h1 := hs s[i] (List.getElem_mem (by omega))
  have h2 := hp p[i] (List.getElem_mem (by omega))
  refine ⟨Int.mul_nonneg h1.1 h2.1, ?_⟩
  have h3 : s[i] * p[i] ≤ 100 * p[i] := Int.mul_le_mul_of_nonneg_right h1.2 h2.1
  omega
theorem valS_bnd {s p : List Int} (hs : ∀ n, n ∈ s → 0 ≤ n ∧ n ≤ 100) (hp : ∀ n, n ∈ p → 0 ≤ n ∧ n ≤ 1000) (hl : (s.length : Int) ≤ 4) : 0 ≤ valS s p ∧ valS s p ≤ 400000 := by
  have := sumL_bnd (by omega) (prod_bnd hs hp)
  have h2 : ((List.zipWith (· * ·) s p).length : Int) ≤ 4 := by rw [List.length_zipWith]; omega
  unfold valS
  omega
/-! ## Debts -/
def grownZ (d r : Int) : Int := d + (d * r).tdiv 10000
def capZ (v g : Int) : Int := (100 * v).tdiv (100 + g)
def min2 (x y : Int) : Int := if y < x then y else x
/-- What is owed after the calls of so many days. -/
def debtZ (m g : Int) (vs rs : Nat → Int) : Nat → Int
  | 0 => m
  | n + 1 => min2 (grownZ (debtZ m g vs rs n) (rs n)) (capZ (vs n) g)
def owedZ (m g : Int) (vs rs : Nat → Int) (n : Nat) : Int := grownZ (debtZ m g vs rs n) (rs n)
def callZ (m g : Int) (vs rs : Nat → Int) (n : Nat) : Int := owedZ m g vs rs n - debtZ m g vs rs (n + 1)
def vsF (s : List Int) (T : List PT) (n : Nat) : Int := valS s (T.getD n (nl, [])).2
def rsF (rt : List Int) (n : Nat) : Int := rt.getD n 0
theorem grown_bnd {d r : Int} (h0 : 0 ≤ d) (h1 : d ≤ 110000) (r0 : 0 ≤ r) (r1 : r ≤ 100) : (0 ≤ d * r ∧ d * r ≤ 11000000) ∧ 0 ≤ (d * r).tdiv 10000 ∧ (d * r).tdiv 10000 ≤ 1100 := by
  have a1 : 0 ≤ d * r := Int.mul_nonneg h0 r0
  have a2 : d * r ≤ d * 100 := Int.mul_le_mul_of_nonneg_left r1 h0
  generalize d * r = X at a1 a2
  rw [Int.tdiv_eq_ediv_of_nonneg a1]
  omega
theorem cap_bnd {v g : Int} (v0 : 0 ≤ v) (v1 : v ≤ 400000) (g0 : 0 ≤ g) (g1 : g ≤ 100) : 0 ≤ capZ v g ∧ capZ v g ≤ 40000000 := by
  unfold capZ
  rw [Int.tdiv_eq_ediv_of_nonneg (by omega)]
  refine ⟨Int.ediv_nonneg (by omega) (by omega), ?_⟩
  have := Int.ediv_le_self (100 + g) (by omega : 0 ≤ 100 * v)
  omega
structure Rates (n : Nat) (vs rs : Nat → Int) : Prop where
  v : ∀ i, i < n → 0 ≤ vs i ∧ vs i ≤ 400000
  r : ∀ i, i < n → 0 ≤ rs i ∧ rs i ≤ 100
theorem debt_bnd {m g : Int} {vs rs : Nat → Int} {n : Nat} (hr : Rates n vs rs) (m0 : 0 ≤ m) (m1 : m ≤ 100000) (g0 : 0 ≤ g) (g1 : g ≤ 100) (hn : (n : Int) ≤ 4) : ∀ k, k ≤ n → 0 ≤ debtZ m g vs rs k ∧ debtZ m g vs rs k ≤ 100000 + 2000 * k
  | 0, _ => ⟨m0, by unfold debtZ; omega⟩
  | k + 1, hk => by
    obtain ⟨h1, h2⟩ := debt_bnd hr m0 m1 g0 g1 hn k (by omega)
    have hv := hr.v k (by omega)
    have hrr := hr.r k (by omega)
    have hg := (grown_bnd h1 (by omega) hrr.1 hrr.2).2
    have hc := cap_bnd hv.1 hv.2 g0 g1
    have e : debtZ m g vs rs (k + 1) = min2 (debtZ m g vs rs k + (debtZ m g vs rs k * rs k).tdiv 10000) (capZ (vs k) g) := rfl
    rw [e]
    generalize (debtZ m g vs rs k * rs k).tdiv 10000 = q at hg
    generalize debtZ m g vs rs k = d at h1 h2
    generalize capZ (vs k) g = c at hc
    unfold min2
    split <;> omega
theorem owed_bnd {m g : Int} {vs rs : Nat → Int} {n : Nat} (hr : Rates n vs rs) (m0 : 0 ≤ m) (m1 : m ≤ 100000) (g0 : 0 ≤ g) (g1 : g ≤ 100) (hn : (n : Int) ≤ 4) {k : Nat} (hk : k < n) : 0 ≤ owedZ m g vs rs k ∧ owedZ m g vs rs k ≤ 120000 := by
  obtain ⟨h1, h2⟩ := debt_bnd hr m0 m1 g0 g1 hn k (by omega)
  have hrr := hr.r k hk
  have hg := (grown_bnd h1 (by omega) hrr.1 hrr.2).2
  unfold owedZ grownZ
  omega
theorem rates_of {st : Int} {n : Nat} {T : List PT} {rt : List Int} {s : List Int} (ht : Tru st n T rt) (hs : ∀ x, x ∈ s → 0 ≤ x ∧ x ≤ 100) (hl : (s.length : Int) ≤ 4) : Rates n (vsF s T) (rsF rt) where
  v := fun i hi => by
    have hiT : i < T.length := by rw [ht.lt]; exact hi
    unfold vsF
    rw [List.getD_eq_getElem?_getD, List.getElem?_eq_getElem hiT]
    exact valS_bnd hs (ht.pb _ (List.getElem_mem hiT)) hl
  r := fun i hi => by
    have hiR : i < rt.length := by rw [ht.lr]; exact hi
    unfold rsF
    rw [getD_lt hiR]
    exact ht.rb _ (List.getElem_mem hiR)
def callsZ (m g : Int) (vs rs : Nat → Int) (n : Nat) : List Int := (List.range n).map (callZ m g vs rs)
def aftersZ (m g : Int) (vs rs : Nat → Int) (n : Nat) : List Int := (List.range n).map fun i => debtZ m g vs rs (i + 1)
end Go.Proofs.Mg
