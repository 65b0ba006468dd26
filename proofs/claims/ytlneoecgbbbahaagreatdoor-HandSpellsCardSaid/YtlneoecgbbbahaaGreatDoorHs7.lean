import Derived.Test.YtlneoecgbbbahaaGreatDoorHs6
namespace Go.Proofs.Hs
open Go Go.Ev
set_option linter.unusedSimpArgs false

/-! ## Counts of pairs, as a map -/
abbrev Cnt := List ((Int × Int) × Int)
def eqP (p q : Int × Int) : Bool := decide (p.1 = q.1) && decide (p.2 = q.2)
theorem eqP_iff {p q : Int × Int} : eqP p q = true ↔ p = q := by
  unfold eqP
  simp only [Bool.and_eq_true, decide_eq_true_eq]
  exact ⟨fun h => Prod.ext h.1 h.2, fun h => by rw [h]; exact ⟨rfl, rfl⟩⟩
def mkE : Cnt → Nat → List MapEntry
  | [], _ => []
  | e :: r, i => ⟨.agg ⟨pc e.1⟩, .int .i64 e.2, i⟩ :: mkE r (i + 1)
def pos : Cnt → (Int × Int) → Nat
  | [], _ => 0
  | e :: r, p => bif eqP p e.1 then 0 else pos r p + 1
def look : Cnt → (Int × Int) → Int
  | [], _ => 0
  | e :: r, p => bif eqP p e.1 then e.2 else look r p
def isIn : Cnt → (Int × Int) → Bool
  | [], _ => false
  | e :: r, p => bif eqP p e.1 then true else isIn r p
def touch : Cnt → (Int × Int) → Cnt
  | [], p => [(p, 0)]
  | e :: r, p => bif eqP p e.1 then e :: r else e :: touch r p
def bump : Cnt → (Int × Int) → Cnt
  | [], p => [(p, 1)]
  | e :: r, p => bif eqP p e.1 then (e.1, e.2 + 1) :: r else e :: bump r p

theorem eqInts_pc (p q : Int × Int) : eqInts (pc p) (pc q) = some (eqP p q) := by
  unfold eqP
  simp only [pc, eqInts, beqKind, cond_true, beqI_eq]
  by_cases h1 : p.1 = q.1 <;> by_cases h2 : p.2 = q.2 <;> simp [h1, h2]

theorem findI_mk (p : Int × Int) : ∀ (L : Cnt) (i j : Nat), findI (pc p) (mkE L i) j = some (bif isIn L p then some (j + pos L p, .int .i64 (look L p)) else none)
  | [], i, j => rfl
  | e :: r, i, j => by
    simp only [mkE, findI, eqInts_pc, isIn, pos, look]
    cases hq : eqP p e.1 with
    | true => simp
    | false =>
      simp only [cond_false, fNat_eq]
      rw [findI_mk p r (i + 1) (Nat.succ j)]
      cases isIn r p with
      | true => simp only [cond_true]; congr 3; omega
      | false => rfl

theorem look_no {p : Int × Int} : ∀ {L : Cnt}, isIn L p = false → look L p = 0 ∧ pos L p = L.length ∧ touch L p = L ++ [(p, 0)]
  | [], _ => ⟨rfl, rfl, rfl⟩
  | e :: r, h => by
    simp only [isIn] at h
    simp only [look, pos, touch]
    cases hq : eqP p e.1 with
    | true => rw [hq] at h; cases h
    | false =>
      rw [hq, cond_false] at h
      obtain ⟨k1, k2, k3⟩ := look_no h
      simp only [cond_false, k1, k2, k3, List.length_cons, List.cons_append]
      exact ⟨trivial, trivial, trivial⟩
theorem touch_yes {p : Int × Int} : ∀ {L : Cnt}, isIn L p = true → touch L p = L
  | [], h => by cases h
  | e :: r, h => by
    simp only [isIn] at h
    simp only [touch]
    cases hq : eqP p e.1 with
    | true => rfl
    | false => rw [hq, cond_false] at h; simp only [cond_false, touch_yes h]
theorem look_touch (p : Int × Int) : ∀ (L : Cnt), look (touch L p) p = look L p ∧ isIn (touch L p) p = true ∧ pos (touch L p) p = pos L p ∧ pos L p < (touch L p).length ∧ (touch L p).length = (bump L p).length
  | [] => by
    have : eqP p p = true := eqP_iff.2 rfl
    simp [touch, look, isIn, pos, bump, this]
  | e :: r => by
    obtain ⟨k1, k2, k3, k4, k5⟩ := look_touch p r
    simp only [touch, look, isIn, pos, bump]
    cases hq : eqP p e.1 with
    | true => simp [look, isIn, pos, hq]
    | false => rw [k5] at k4; simp [look, isIn, pos, hq, k1, k2, k3, k4, k5]
theorem mk_append : ∀ (L : Cnt) (p : Int × Int) (c : Int) (i : Nat), mkE L i ++ [⟨.agg ⟨pc p⟩, .int .i64 c, i + L.length⟩] = mkE (L ++ [(p, c)]) i
  | [], p, c, i => rfl
  | e :: r, p, c, i => by
    simp only [mkE, List.cons_append, List.length_cons]
    rw [← mk_append r p c (i + 1)]
    rw [show i + 1 + r.length = i + (r.length + 1) from by omega]
theorem findBorn_mk : ∀ (L : Cnt) (i k j : Nat), k < L.length → findBorn (mkE L i) (i + k) j = some (j + k)
  | [], i, k, j, h => by simp at h
  | e :: r, i, k, j, h => by
    simp only [mkE, findBorn]
    cases k with
    | zero => simp only [Nat.add_zero, Nat.beq_refl, cond_true]
    | succ k =>
      have : Nat.beq i (i + (k + 1)) = false := by
        cases e : Nat.beq i (i + (k + 1)) with
        | false => rfl
        | true => have := Nat.eq_of_beq_eq_true e; omega
      rw [this, cond_false, show i + (k + 1) = (i + 1) + k from by omega, findBorn_mk r (i + 1) k (Nat.succ j) (by simpa using h)]
      congr 1; omega
theorem modE_bump (p : Int × Int) : ∀ (L : Cnt) (i : Nat), modE (mkE (touch L p) i) (pos L p) (fun e => { key := e.key, val := .int .i64 (look L p + 1), born := e.born }) = mkE (bump L p) i
  | [], i => by simp [touch, mkE, pos, look, bump, modE]
  | e :: r, i => by
    simp only [touch, pos, look, bump]
    cases hq : eqP p e.1 with
    | true => rfl
    | false => simp only [cond_false, mkE, modE]; rw [modE_bump p r (i + 1)]
theorem modE_same (p : Int × Int) : ∀ (L : Cnt) (i : Nat), isIn L p = true → modE (mkE L i) (pos L p) (fun e => { key := .agg ⟨pc p⟩, val := e.val, born := e.born }) = mkE L i
  | [], i, h => by cases h
  | e :: r, i, h => by
    simp only [isIn] at h
    simp only [pos]
    cases hq : eqP p e.1 with
    | true =>
      have := eqP_iff.1 hq
      simp only [cond_true, mkE, modE, this]
    | false => rw [hq, cond_false] at h; simp only [cond_false, mkE, modE]; rw [modE_same p r (i + 1) h]
theorem mk_get : ∀ (L : Cnt) (p : Int × Int) (i : Nat), isIn L p = true → (mkE L i)[pos L p]? = some ⟨.agg ⟨pc p⟩, .int .i64 (look L p), i + pos L p⟩
  | [], p, i, h => by cases h
  | e :: r, p, i, h => by
    simp only [isIn] at h
    simp only [pos, look]
    cases hq : eqP p e.1 with
    | true =>
      have := eqP_iff.1 hq
      simp only [cond_true, mkE, this]; rfl
    | false =>
      rw [hq, cond_false] at h
      simp only [cond_false, mkE, List.getElem?_cons_succ]
      rw [mk_get r p (i + 1) h, show i + 1 + pos r p = i + (pos r p + 1) from by omega]

/-! ## The counts -/
def cntOf : Prs → Cnt
  | ps => ps.foldl bump []
theorem cnt_snoc (ps : Prs) (p : Int × Int) : cntOf (ps ++ [p]) = bump (cntOf ps) p := by simp [cntOf]
theorem look_bump (p q : Int × Int) : ∀ (L : Cnt), look (bump L p) q = look L q + (bif eqP q p then 1 else 0)
  | [] => by
    simp only [bump, look]
    cases eqP q p <;> rfl
  | e :: r => by
    have ih := look_bump p q r
    simp only [bump]
    cases hp : eqP p e.1 with
    | true =>
      have := eqP_iff.1 hp
      simp only [cond_true, look, ← this]
      cases hq : eqP q p with
      | true => simp
      | false => simp
    | false =>
      simp only [cond_false, look]
      cases hq : eqP q e.1 with
      | true =>
        have h1 := eqP_iff.1 hq
        have : eqP q p = false := by
          cases h2 : eqP q p with
          | false => rfl
          | true => have h3 := eqP_iff.1 h2; rw [← h3, h1] at hp; rw [eqP_iff.2 rfl] at hp; cases hp
        rw [this]; simp
      | false => simp only [cond_false]; exact ih
theorem bne_eqP (p q : Int × Int) : (q == p) = eqP q p := by
  rw [Bool.eq_iff_iff, eqP_iff, beq_iff_eq]
theorem look_cnt (q : Int × Int) : ∀ (ps : Prs) (L : Cnt), look (ps.foldl bump L) q = look L q + (ps.count q : Nat)
  | [], L => by simp
  | p :: r, L => by
    rw [List.foldl_cons, look_cnt q r, look_bump, List.count_cons]
    rw [show (p == q) = eqP q p from by rw [bne_eqP]; exact Bool.eq_iff_iff.2 ⟨fun h => eqP_iff.2 (eqP_iff.1 h).symm, fun h => eqP_iff.2 (eqP_iff.1 h).symm⟩]
    cases eqP q p <;> simp <;> omega
theorem look_cntOf (ps : Prs) (q : Int × Int) : look (cntOf ps) q = (ps.count q : Nat) := by
  unfold cntOf
  rw [look_cnt q ps []]
  simp [look]
theorem len_bump (p : Int × Int) : ∀ (L : Cnt), (bump L p).length ≤ L.length + 1
  | [] => by simp [bump]
  | e :: r => by
    have := len_bump p r
    simp only [bump]
    cases eqP p e.1 <;> simp <;> omega
end Go.Proofs.Hs
