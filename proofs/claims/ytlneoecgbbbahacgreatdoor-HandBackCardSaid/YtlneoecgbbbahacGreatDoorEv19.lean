/- Regions that draw their order. -/
import Derived.Test.YtlneoecgbbbahacGreatDoorEv18
namespace Go.Ev
open Go.RowKit

section
variable {P : Program} {m : M} {w0 w : World} {h : AHeap} {t : T Value} {n : Nat} {a : Act} {rd : Option Nat} {nn : Nat} {ops : Array Oper}

/-! ## What comes before what -/
def preStep (bs : List Nat) (s : Nat) (e : Edge) : Nat := bif Region.binds .any e then Nat.lor (Nat.lor s (Nat.pow 2 e.on)) (bs.getD e.on 0) else s

theorem preStep_bit (bs : List Nat) : ∀ (l : List Edge) (s k : Nat), (l.foldl (preStep bs) s).testBit k = true → s.testBit k = true ∨ ∃ e ∈ l, Region.binds .any e = true ∧ (k = e.on ∨ (bs.getD e.on 0).testBit k = true)
  | [], s, k, hk => .inl hk
  | e :: l, s, k, hk => by
    simp only [List.foldl_cons] at hk
    rcases preStep_bit bs l _ k hk with h1 | ⟨e', h1, h2⟩
    · unfold preStep at h1
      cases hb : Region.binds .any e with
      | false => rw [hb, cond_false] at h1; exact .inl h1
      | true =>
        rw [hb, cond_true] at h1
        have h1' : ((s ||| 2 ^ e.on) ||| bs.getD e.on 0).testBit k = true := h1
        rw [Nat.testBit_or, Nat.testBit_or, Bool.or_eq_true, Bool.or_eq_true, Nat.testBit_two_pow] at h1'
        rcases h1' with (h1 | h1) | h1
        · exact .inl h1
        · exact .inr ⟨e, by simp, hb, .inl (of_decide_eq_true h1).symm⟩
        · exact .inr ⟨e, by simp, hb, .inr h1⟩
    · exact .inr ⟨e', by simp [h1], h2⟩

theorem infoGo_get (P : Program) (ops : Array Oper) : ∀ (rest : List Oper) (i : Nat) (bs : List Nat) (k : Nat) (x : Info), (infoGo P ops rest i bs)[k]? = some x →
    ∃ o, rest[k]? = some o ∧ x.i = i + k ∧ x.o = o ∧ x.w = isW P o.op ∧ ∃ bs', x.pre = o.after.toList.foldl (preStep bs') 0 ∧ bs' = bs ++ ((infoGo P ops rest i bs).take k).map (·.pre)
  | [], i, bs, k, x, e => by simp [infoGo] at e
  | o :: rest, i, bs, 0, x, e => by
    simp only [infoGo, List.getElem?_cons_zero, Option.some.injEq] at e
    subst e
    exact ⟨o, rfl, rfl, rfl, rfl, bs, rfl, by simp⟩
  | o :: rest, i, bs, k + 1, x, e => by
    simp only [infoGo, List.getElem?_cons_succ] at e
    obtain ⟨o', h1, h2, h3, h4, bs', h5, h6⟩ := infoGo_get P ops rest _ _ k x e
    refine ⟨o', by simpa using h1, by rw [h2]; simp only [Nat.succ_eq_add_one]; omega, h3, h4, bs', h5, ?_⟩
    rw [h6]
    simp only [infoGo, List.take_succ_cons, List.map_cons, List.append_assoc, List.singleton_append]

theorem infoGo_length (P : Program) (ops : Array Oper) : ∀ (rest : List Oper) (i : Nat) (bs : List Nat), (infoGo P ops rest i bs).length = rest.length
  | [], _, _ => rfl
  | o :: rest, i, bs => by simp [infoGo, infoGo_length P ops rest]

/-- The numbers that come before. -/
def preOf (P : Program) (ops : Array Oper) (i : Nat) : Nat := (((infos P ops)[i]?).map (·.pre)).getD 0

theorem infos_get {i : Nat} {x : Info} (e : (infos P ops)[i]? = some x) : ops[i]? = some x.o ∧ x.i = i ∧ x.w = isW P x.o.op ∧ x.pre = preOf P ops i ∧
    ∀ k, x.pre.testBit k = true → ∃ e ∈ x.o.after, Region.binds .any e = true ∧ (k = e.on ∨ (preOf P ops e.on).testBit k = true) := by
  obtain ⟨o, h1, h2, h3, h4, bs', h5, h6⟩ := infoGo_get P ops _ _ _ _ _ e
  subst h3
  refine ⟨by simpa using h1, by simpa using h2, h4, by simp [preOf, e], fun k hk => ?_⟩
  rw [h5] at hk
  rcases preStep_bit _ _ _ _ hk with h7 | ⟨e', h7, h8, h9⟩
  · simp at h7
  · refine ⟨e', by simpa using h7, h8, h9.imp id fun h9 => ?_⟩
    rw [h6, List.nil_append] at h9
    rw [List.getD_eq_getElem?_getD, List.getElem?_map, List.getElem?_take] at h9
    split at h9
    · unfold preOf infos
      exact h9
    · simp at h9

theorem infos_some {i : Nat} {o : Oper} (e : ops[i]? = some o) : ∃ x, (infos P ops)[i]? = some x := by
  have : i < (infos P ops).length := by
    rw [infos, infoGo_length, Array.length_toList]
    exact (Array.getElem?_eq_some_iff.1 e).1
  exact ⟨_, List.getElem?_eq_getElem this⟩

theorem infos_self {x : Info} (e : x ∈ infos P ops) : (infos P ops)[x.i]? = some x := by
  obtain ⟨i, hi, he⟩ := List.mem_iff_getElem.1 e
  have h1 : (infos P ops)[i]? = some x := by rw [List.getElem?_eq_getElem hi, he]
  rw [(infos_get h1).2.1]
  exact h1

theorem tmpsOf_eq (o : Oper) : tmpsOf ops o = o.looksAt ops := by
  unfold tmpsOf Oper.looksAt
  congr 1
  cases o.guard with
  | none => rfl
  | some g =>
    obtain ⟨j, b⟩ := g
    simp only
    cases ho : ops[j]? <;> simp

theorem pairOk_apart {x y : Info} (k : pairOk ops x y = true) : y.pre.testBit x.i = true ∨ x.o.apart ops y.o = true := by
  unfold pairOk at k
  rw [Bool.or_eq_true] at k
  refine k.imp id fun k => ?_
  rw [Bool.and_eq_true, tmpsOf_eq, tmpsOf_eq] at k
  have k1 := k.1
  have k2 := k.2
  unfold Oper.apart
  rw [Bool.and_eq_true]
  constructor
  · cases hd : x.o.dst with
    | none => rfl
    | some d =>
      rw [hd] at k1
      simp only [Bool.not_eq_true', Bool.or_eq_false_iff] at k1
      simp only [bne, k1.1, k1.2]
      rfl
  · cases hd : y.o.dst with
    | none => rfl
    | some d =>
      rw [hd] at k2
      exact k2

theorem apart_symm {x y : Oper} (k : x.apart ops y = true) : y.apart ops x = true := by
  unfold Oper.apart at *
  cases hx : x.dst <;> cases hy : y.dst <;> simp [hx, hy] at k ⊢
  · exact k
  · exact k
  · exact ⟨⟨k.2, fun e => k.1.2 e.symm⟩, k.1.1⟩

/-- Neither comes before the other: they don't touch each other's temporaries. -/
theorem regOk_apart (k : regOk P ops = true) {x y : Info} (hx : x ∈ infos P ops) (hy : y ∈ infos P ops) (hne : x.i ≠ y.i) (h1 : x.pre.testBit y.i = false) (h2 : y.pre.testBit x.i = false) :
    x.o.apart ops y.o = true := by
  unfold regOk at k
  simp only [Bool.and_eq_true, List.all_eq_true, Bool.or_eq_true, Bool.not_eq_true'] at k
  obtain ⟨⟨_, k⟩, _⟩ := k
  rcases Nat.lt_or_gt_of_ne hne with hlt | hlt
  · rcases k y hy x hx with hb | hb
    · have := Nat.blt_eq.mpr hlt; rw [hb] at this; cases this
    · rcases pairOk_apart hb with h3 | h3
      · rw [h2] at h3; cases h3
      · exact h3
  · rcases k x hx y hy with hb | hb
    · have := Nat.blt_eq.mpr hlt; rw [hb] at this; cases this
    · rcases pairOk_apart hb with h3 | h3
      · rw [h1] at h3; cases h3
      · exact apart_symm h3

theorem regOk_edges (k : regOk P ops = true) {x : Info} (hx : x ∈ infos P ops) : ∀ e ∈ x.o.after, Region.binds .any e = true → e.on < x.i := by
  unfold regOk at k
  simp only [Bool.and_eq_true, List.all_eq_true] at k
  intro e he hb
  have := k.1.1 x hx
  unfold edgesOk at this
  rw [List.all_eq_true] at this
  have := this e (by simpa using he)
  simpa [hb, Nat.blt_eq] using this

/-! ## Picking -/
theorem pickR_some {done : Nat} : ∀ {l : List Info} {x : Info} {rest : List Info}, pickR done l = some (x, rest) → ∃ A B, l = A ++ x :: B ∧ rest = A ++ B ∧ x.w = false ∧ Nat.land x.pre done = x.pre
  | [], _, _, e => by cases e
  | y :: l, x, rest, e => by
    unfold pickR at e
    cases hc : (!y.w && Nat.beq (Nat.land y.pre done) y.pre) with
    | true =>
      rw [hc, cond_true] at e
      cases e
      simp only [Bool.and_eq_true, Bool.not_eq_true'] at hc
      exact ⟨[], l, rfl, rfl, hc.1, Nat.eq_of_beq_eq_true hc.2⟩
    | false =>
      rw [hc, cond_false] at e
      split at e
      · rename_i b l' hp
        cases e
        obtain ⟨A, B, h1, h2, h3⟩ := pickR_some hp
        exact ⟨y :: A, B, by simp [h1], by simp [h2], h3⟩
      · cases e

theorem pickR_none {done : Nat} : ∀ {l : List Info}, pickR done l = none → ∀ x ∈ l, x.w = false → Nat.land x.pre done ≠ x.pre
  | [], _, _, hx => by cases hx
  | y :: l, e, x, hx => by
    unfold pickR at e
    cases hc : (!y.w && Nat.beq (Nat.land y.pre done) y.pre) with
    | true => rw [hc, cond_true] at e; cases e
    | false =>
      rw [hc, cond_false] at e
      split at e
      · cases e
      · rename_i hp
        rcases List.mem_cons.1 hx with rfl | hx
        · intro hw heq
          rw [hw, heq, Nat.beq_refl] at hc
          cases hc
        · exact pickR_none hp x hx

theorem mem_splits {x : Info} {B : List Info} : ∀ (A : List Info), (x, A ++ B) ∈ splits (A ++ x :: B)
  | [] => by simp [splits]
  | a :: A => by
    simp only [List.cons_append, splits, List.mem_cons, List.mem_map]
    exact .inr ⟨(x, A ++ B), mem_splits A, rfl⟩

theorem mem_wreadies {done : Nat} {x : Info} {A B : List Info} (hw : x.w = true) (hp : Nat.land x.pre done = x.pre) : (x, A ++ B) ∈ wreadies done (A ++ x :: B) := by
  unfold wreadies
  rw [List.mem_filter]
  exact ⟨mem_splits A, by simp only [hw, hp, Nat.beq_refl, Bool.and_self]⟩

theorem allB_mem {α : Type} {f : α → Bool} : ∀ {l : List α}, allB l f = true → ∀ a ∈ l, f a = true
  | [], _, a, ha => by cases ha
  | [b], e, a, ha => by
    rw [List.mem_singleton] at ha
    subst ha
    exact e
  | b :: c :: r, e, a, ha => by
    simp only [allB, Bool.and_eq_true] at e
    rcases List.mem_cons.1 ha with rfl | ha
    · exact e.1
    · exact allB_mem (l := c :: r) e.2 a ha

theorem again_spec {h' : AHeap} {pre : Nat} : ∀ {l : List Seen}, again P h' pre l = true → ∀ s ∈ l, isReadOp s.o.op = false ∨ pre.testBit s.i = true ∨ aread P s.t h' s.o = some s.v
  | [], _, _, hs => by cases hs
  | s :: l, e, s', hs => by
    unfold again at e
    rw [Bool.and_eq_true, Bool.or_eq_true, Bool.or_eq_true] at e
    rcases List.mem_cons.1 hs with rfl | hs
    · rcases e.1 with (k | k) | k
      · exact .inl (by simpa using k)
      · exact .inr (.inl k)
      · refine .inr (.inr ?_)
        split at k
        · rename_i v hv
          rw [hv, veq_eq _ _ k]
        · cases k
    · exact again_spec e.2 s' hs

end
end Go.Ev
